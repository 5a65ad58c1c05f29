/-
  Plain lemmas: a number's bytes, and their order; the contracts of Put in these words. Condition: the number fits its kind.
-/
import Derived.Test.YtnifaldgofmciaaOcF
namespace Go.Proofs.Ytnifaldgofmciaa.oc
open Go.RowKit
/-- A number's bytes, the greatest first. -/
def be : Nat → Int → List Int
  | 0, _ => []
  | n + 1, v => be n (v / 256) ++ [v % 256]
theorem be_len : ∀ n v, (be n v).length = n
  | 0, _ => rfl
  | n + 1, v => by simp [be, be_len n]
theorem be_byt : ∀ n v, Byt (be n v)
  | 0, _ => fun x h => by simp [be] at h
  | n + 1, v => (be_byt n _).append (fun x h => by simp at h; omega)
theorem be4 (v : Int) (h0 : 0 ≤ v) (h1 : v ≤ 4294967295) : bcells (be 4 v) = #[.int .u8 (v / 16777216), .int .u8 (v / 65536 % 256), .int .u8 (v / 256 % 256), .int .u8 (v % 256)] := by
  simp only [be, bcells, List.nil_append, List.cons_append, List.map_cons, List.map_nil]
  rw [show v / 256 / 256 / 256 % 256 = v / 16777216 by omega, show v / 256 / 256 % 256 = v / 65536 % 256 by omega]
theorem be8 (v : Int) (h0 : 0 ≤ v) (h1 : v ≤ 18446744073709551615) : bcells (be 8 v) = #[.int .u8 (v / 72057594037927936), .int .u8 (v / 281474976710656 % 256), .int .u8 (v / 1099511627776 % 256), .int .u8 (v / 4294967296 % 256), .int .u8 (v / 16777216 % 256), .int .u8 (v / 65536 % 256), .int .u8 (v / 256 % 256), .int .u8 (v % 256)] := by
  simp only [be, bcells, List.nil_append, List.cons_append, List.map_cons, List.map_nil]
  have e2 : v / 256 / 256 = v / 65536 := by omega
  have e3 : v / 65536 / 256 = v / 16777216 := by omega
  have e4 : v / 16777216 / 256 = v / 4294967296 := by omega
  have e5 : v / 4294967296 / 256 = v / 1099511627776 := by omega
  have e6 : v / 1099511627776 / 256 = v / 281474976710656 := by omega
  have e7 : v / 281474976710656 / 256 = v / 72057594037927936 := by omega
  rw [e2, e3, e4, e5, e6, e7, show v / 72057594037927936 % 256 = v / 72057594037927936 by omega]

theorem putb32 (v : Int) (h0 : 0 ≤ v) (h1 : v ≤ 4294967295) (w : World) : Calls Try.prog 27 #[.int .u32 v] w (NewP w 4 (be 4 v)) :=
  (put32 v h0 h1 w).mono fun e w' ⟨he, hw⟩ => by
    subst he hw
    exact ⟨_, rfl, sees_new _ _ (be 4 v) (be4 v h0 h1).symm (be_byt _ _) (by rw [be_len]; decide) _ rfl _ (be_len _ _).symm, (Below.refl _ _).alloc (Nat.le_refl _) _, Nat.le_refl _⟩
theorem putb64 (v : Int) (h0 : 0 ≤ v) (h1 : v ≤ 18446744073709551615) (w : World) : Calls Try.prog 26 #[.int .u64 v] w (NewP w 8 (be 8 v)) :=
  (put64 v h0 h1 w).mono fun e w' ⟨he, hw⟩ => by
    subst he hw
    exact ⟨_, rfl, sees_new _ _ (be 8 v) (be8 v h0 h1).symm (be_byt _ _) (by rw [be_len]; decide) _ rfl _ (be_len _ _).symm, (Below.refl _ _).alloc (Nat.le_refl _) _, Nat.le_refl _⟩

/-! ### The order of bytes -/
def tob (xs : List Int) : List UInt8 := xs.map fun n => UInt8.ofNat n.toNat
theorem strOfNums_toList (xs : List Int) : (strOfNums xs).toList = tob xs := by
  rw [ByteArray.toList_eq]; exact strOfNums_data xs

theorem ofNat_inj {x y : Int} (hx : 0 ≤ x ∧ x ≤ 255) (hy : 0 ≤ y ∧ y ≤ 255) (h : UInt8.ofNat x.toNat = UInt8.ofNat y.toNat) : x = y := by
  have := congrArg UInt8.toNat h
  simp at this
  omega
theorem tob_inj : ∀ {xs ys : List Int}, Byt xs → Byt ys → tob xs = tob ys → xs = ys
  | [], [], _, _, _ => rfl
  | [], _ :: _, _, _, h => by simp [tob] at h
  | _ :: _, [], _, _, h => by simp [tob] at h
  | x :: xs, y :: ys, hx, hy, h => by
    simp only [tob, List.map_cons, List.cons.injEq] at h
    rw [ofNat_inj (hx x (by simp)) (hy y (by simp)) h.1, tob_inj (xs := xs) (ys := ys) (fun z hz => hx z (by simp [hz])) (fun z hz => hy z (by simp [hz])) h.2]
end Go.Proofs.Ytnifaldgofmciaa.oc
