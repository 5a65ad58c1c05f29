/-
  Plain lemmas: a number's bytes, and their order; the contracts of Put in these words. Condition: the number fits its kind.
-/
import Derived.Test.YtabopcfhonkecaaF
namespace Go.Proofs.Ytabopcfhonkecaa
open Go.RowKit
/-- A number's bytes, the greatest first. -/
def be : Nat → Int → List Int
  | 0, _ => []
  | n + 1, v => be n (v / 256) ++ [v % 256]
theorem be_len : ∀ n v, (be n v).length = n
  | 0, _ => rfl
  | n + 1, v => by simp [be, be_len n]
theorem be_byt : ∀ n v, Byt (be n v)
  | 0, _ => fun x h => by simp [be] at h
  | n + 1, v => (be_byt n _).append (fun x h => by simp at h; omega)
theorem be1 (v : Int) (h0 : 0 ≤ v) (h1 : v ≤ 255) : bcells (be 1 v) = #[.int .u8 v] := by
  simp only [be, bcells, List.nil_append, List.map_cons, List.map_nil]
  rw [show v % 256 = v by omega]
theorem be2 (v : Int) (h0 : 0 ≤ v) (h1 : v ≤ 65535) : bcells (be 2 v) = #[.int .u8 (v / 256), .int .u8 (v % 256)] := by
  simp only [be, bcells, List.nil_append, List.cons_append, List.map_cons, List.map_nil]
  rw [show v / 256 % 256 = v / 256 by omega]
theorem be4 (v : Int) (h0 : 0 ≤ v) (h1 : v ≤ 4294967295) : bcells (be 4 v) = #[.int .u8 (v / 16777216), .int .u8 (v / 65536 % 256), .int .u8 (v / 256 % 256), .int .u8 (v % 256)] := by
  simp only [be, bcells, List.nil_append, List.cons_append, List.map_cons, List.map_nil]
  rw [show v / 256 / 256 / 256 % 256 = v / 16777216 by omega, show v / 256 / 256 % 256 = v / 65536 % 256 by omega]
theorem be8 (v : Int) (h0 : 0 ≤ v) (h1 : v ≤ 18446744073709551615) : bcells (be 8 v) = #[.int .u8 (v / 72057594037927936), .int .u8 (v / 281474976710656 % 256), .int .u8 (v / 1099511627776 % 256), .int .u8 (v / 4294967296 % 256), .int .u8 (v / 16777216 % 256), .int .u8 (v / 65536 % 256), .int .u8 (v / 256 % 256), .int .u8 (v % 256)] := by
  simp only [be, bcells, List.nil_append, List.cons_append, List.map_cons, List.map_nil]
  have e2 : v / 256 / 256 = v / 65536 := by omega
  have e3 : v / 65536 / 256 = v / 16777216 := by omega
  have e4 : v / 16777216 / 256 = v / 4294967296 := by omega
  have e5 : v / 4294967296 / 256 = v / 1099511627776 := by omega
  have e6 : v / 1099511627776 / 256 = v / 281474976710656 := by omega
  have e7 : v / 281474976710656 / 256 = v / 72057594037927936 := by omega
  rw [e2, e3, e4, e5, e6, e7, show v / 72057594037927936 % 256 = v / 72057594037927936 by omega]

theorem putb16 (v : Int) (h0 : 0 ≤ v) (h1 : v ≤ 65535) (w : World) : Calls Try.prog 21 #[.int .u16 v] w (NewP w 2 (be 2 v)) :=
  (put16 v h0 h1 w).mono fun e w' ⟨he, hw⟩ => by
    subst he hw
    exact ⟨_, rfl, sees_new _ _ (be 2 v) (be2 v h0 h1).symm (be_byt _ _) (by rw [be_len]; decide) _ rfl _ (be_len _ _).symm, (Below.refl _ _).alloc (Nat.le_refl _) _, Nat.le_refl _⟩
theorem putb32 (v : Int) (h0 : 0 ≤ v) (h1 : v ≤ 4294967295) (w : World) : Calls Try.prog 22 #[.int .u32 v] w (NewP w 4 (be 4 v)) :=
  (put32 v h0 h1 w).mono fun e w' ⟨he, hw⟩ => by
    subst he hw
    exact ⟨_, rfl, sees_new _ _ (be 4 v) (be4 v h0 h1).symm (be_byt _ _) (by rw [be_len]; decide) _ rfl _ (be_len _ _).symm, (Below.refl _ _).alloc (Nat.le_refl _) _, Nat.le_refl _⟩
/-! ### The order of bytes -/
def tob (xs : List Int) : List UInt8 := xs.map fun n => UInt8.ofNat n.toNat
theorem tob_snoc (xs : List Int) (x : Int) : tob (xs ++ [x]) = tob xs ++ [UInt8.ofNat x.toNat] := by simp [tob]
theorem strOfNums_toList (xs : List Int) : (strOfNums xs).toList = tob xs := by
  rw [ByteArray.toList_eq]; exact strOfNums_data xs

theorem ofNat_inj {x y : Int} (hx : 0 ≤ x ∧ x ≤ 255) (hy : 0 ≤ y ∧ y ≤ 255) (h : UInt8.ofNat x.toNat = UInt8.ofNat y.toNat) : x = y := by
  have := congrArg UInt8.toNat h
  simp at this
  omega
theorem ofNat_lt {x y : Int} (hx : 0 ≤ x ∧ x ≤ 255) (hy : 0 ≤ y ∧ y ≤ 255) : (UInt8.ofNat x.toNat < UInt8.ofNat y.toNat) ↔ x < y := by
  rw [UInt8.lt_iff_toNat_lt]
  simp
  omega
theorem tob_inj : ∀ {xs ys : List Int}, Byt xs → Byt ys → tob xs = tob ys → xs = ys
  | [], [], _, _, _ => rfl
  | [], _ :: _, _, _, h => by simp [tob] at h
  | _ :: _, [], _, _, h => by simp [tob] at h
  | x :: xs, y :: ys, hx, hy, h => by
    simp only [tob, List.map_cons, List.cons.injEq] at h
    rw [ofNat_inj (hx x (by simp)) (hy y (by simp)) h.1, tob_inj (xs := xs) (ys := ys) (fun z hz => hx z (by simp [hz])) (fun z hz => hy z (by simp [hz])) h.2]
theorem less_cons (a b : UInt8) (x y : List UInt8) : Op.bytesLess (a :: x) (b :: y) = (decide (a < b) || (a == b && Op.bytesLess x y)) := rfl
theorem less_snoc : ∀ (x y : List UInt8) (c d : UInt8), x.length = y.length → Op.bytesLess (x ++ [c]) (y ++ [d]) = (Op.bytesLess x y || (x == y && decide (c < d)))
  | [], [], c, d, _ => by simp [Op.bytesLess]
  | [], _ :: _, _, _, h => by simp at h
  | _ :: _, [], _, _, h => by simp at h
  | a :: x, b :: y, c, d, h => by
    rw [List.cons_append, List.cons_append, less_cons, less_cons, less_snoc x y c d (by simpa using h)]
    have e : ((a :: x) == (b :: y)) = (a == b && x == y) := rfl
    rw [e]
    generalize decide (a < b) = p1
    generalize (a == b) = p2
    generalize Op.bytesLess x y = p3
    generalize (x == y) = p4
    generalize decide (c < d) = p5
    revert p1 p2 p3 p4 p5
    decide
theorem be_eq : ∀ (n : Nat) (a b : Int), 0 ≤ a → a < 256 ^ n → 0 ≤ b → b < 256 ^ n → be n a = be n b → a = b
  | 0, a, b, h1, h2, h3, h4, _ => by simp at h2 h4; omega
  | n + 1, a, b, h1, h2, h3, h4, h => by
    rw [Int.pow_succ] at h2 h4
    simp only [be] at h
    obtain ⟨e1, e2⟩ := List.append_inj h (by rw [be_len, be_len])
    have := be_eq n (a / 256) (b / 256) (by omega) (by omega) (by omega) (by omega) e1
    simp at e2
    omega
theorem be_str (n : Nat) (a b : Int) (h1 : 0 ≤ a) (h2 : a < 256 ^ n) (h3 : 0 ≤ b) (h4 : b < 256 ^ n) : ((strOfNums (be n a)).toList == (strOfNums (be n b)).toList) = decide (a = b) := by
  rw [strOfNums_toList, strOfNums_toList]
  by_cases e : a = b
  · subst e; simp
  · have : tob (be n a) ≠ tob (be n b) := fun h => e (be_eq n a b h1 h2 h3 h4 (tob_inj (be_byt _ _) (be_byt _ _) h))
    simp [e, this]
theorem be_less : ∀ (n : Nat) (a b : Int), 0 ≤ a → a < 256 ^ n → 0 ≤ b → b < 256 ^ n → Op.bytesLess (strOfNums (be n a)).toList (strOfNums (be n b)).toList = decide (a < b)
  | 0, a, b, h1, h2, h3, h4 => by
    simp at h2 h4
    rw [strOfNums_toList, strOfNums_toList]
    simp [be, tob, Op.bytesLess]; omega
  | n + 1, a, b, h1, h2, h3, h4 => by
    rw [Int.pow_succ] at h2 h4
    have ih := be_less n (a / 256) (b / 256) (by omega) (by omega) (by omega) (by omega)
    have ie := be_str n (a / 256) (b / 256) (by omega) (by omega) (by omega) (by omega)
    rw [strOfNums_toList, strOfNums_toList] at ih ie ⊢
    simp only [be]
    rw [tob_snoc, tob_snoc, less_snoc _ _ _ _ (by simp [tob, be_len]), ih, ie]
    have hl := ofNat_lt (x := a % 256) (y := b % 256) (by omega) (by omega)
    rw [Bool.eq_iff_iff]
    simp [hl]
    omega
end Go.Proofs.Ytabopcfhonkecaa
