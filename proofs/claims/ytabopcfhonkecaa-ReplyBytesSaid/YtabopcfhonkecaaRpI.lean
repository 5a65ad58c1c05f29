/-
  Contracts of the functions that the statements of package octet go through: are bytes the same? Condition: the slices read as bytes.
-/
import Derived.Test.YtabopcfhonkecaaER
namespace Go.Proofs.Ytabopcfhonkecaa.os
open Go.RowKit

theorem u8nat (n : Nat) (h : n < 256) : IntKind.u8.wrap (n : Int) = n := by
  simp [IntKind.wrap, IntKind.bits, IntKind.signed]
  omega
theorem ofInt8 (a : Nat) : BitVec.ofInt IntKind.u8.bits (a : Int) = BitVec.ofNat 8 a := BitVec.ofInt_natCast ..
theorem bits_xor8 (a b : Nat) : bits .xor .u8 (a : Int) (b : Int) = ((BitVec.ofNat 8 a ^^^ BitVec.ofNat 8 b).toNat : Int) := by
  have e : bits .xor .u8 (a : Int) (b : Int) = IntKind.u8.wrap ((BitVec.ofInt 8 (a : Int) ^^^ BitVec.ofInt 8 (b : Int)).toNat : Int) := rfl
  rw [e, BitVec.ofInt_natCast, BitVec.ofInt_natCast]
  exact u8nat _ (BitVec.isLt _)
theorem bits_or8 (a b : Nat) : bits .or .u8 (a : Int) (b : Int) = ((BitVec.ofNat 8 a ||| BitVec.ofNat 8 b).toNat : Int) := by
  have e : bits .or .u8 (a : Int) (b : Int) = IntKind.u8.wrap ((BitVec.ofInt 8 (a : Int) ||| BitVec.ofInt 8 (b : Int)).toNat : Int) := rfl
  rw [e, BitVec.ofInt_natCast, BitVec.ofInt_natCast]
  exact u8nat _ (BitVec.isLt _)
theorem xor8_zero (x y : Int) (hx : 0 ≤ x ∧ x ≤ 255) (hy : 0 ≤ y ∧ y ≤ 255) : (bits .xor .u8 x y = 0 ↔ x = y) ∧ 0 ≤ bits .xor .u8 x y ∧ bits .xor .u8 x y ≤ 255 := by
  obtain ⟨a, rfl⟩ := Int.eq_ofNat_of_zero_le hx.1
  obtain ⟨b, rfl⟩ := Int.eq_ofNat_of_zero_le hy.1
  rw [bits_xor8]
  have hl := (BitVec.ofNat 8 a ^^^ BitVec.ofNat 8 b).isLt
  refine ⟨?_, by omega, by omega⟩
  constructor
  · intro h
    have h1 : (BitVec.ofNat 8 a ^^^ BitVec.ofNat 8 b) = 0#8 := BitVec.eq_of_toNat_eq ((Int.ofNat_eq_zero.1 h).trans rfl)
    have h2 := BitVec.xor_eq_zero_iff.1 h1
    have h3 := congrArg BitVec.toNat h2
    simp at h3
    omega
  · intro h
    have : a = b := by omega
    subst this
    simp
theorem or8_zero (x y : Int) (hx : 0 ≤ x ∧ x ≤ 255) (hy : 0 ≤ y ∧ y ≤ 255) : (bits .or .u8 x y = 0 ↔ x = 0 ∧ y = 0) ∧ 0 ≤ bits .or .u8 x y ∧ bits .or .u8 x y ≤ 255 := by
  obtain ⟨a, rfl⟩ := Int.eq_ofNat_of_zero_le hx.1
  obtain ⟨b, rfl⟩ := Int.eq_ofNat_of_zero_le hy.1
  rw [bits_or8]
  have hl := (BitVec.ofNat 8 a ||| BitVec.ofNat 8 b).isLt
  refine ⟨?_, by omega, by omega⟩
  constructor
  · intro h
    have h1 : (BitVec.ofNat 8 a ||| BitVec.ofNat 8 b) = 0#8 := BitVec.eq_of_toNat_eq ((Int.ofNat_eq_zero.1 h).trans rfl)
    have h2 := BitVec.or_eq_zero_iff.1 h1
    have h3 := congrArg BitVec.toNat h2.1
    have h4 := congrArg BitVec.toNat h2.2
    simp at h3 h4
    omega
  · intro h
    have h1 : a = 0 := by omega
    have h2 : b = 0 := by omega
    subst h1 h2
    simp

theorem same_len (x y : Option Addr) (l m c d : Nat) (h : ¬ l = m) (w : World) :
    Calls Try.prog 30 #[.slice x l c, .slice y m d] w fun e w' => e = .returned (.bool false) ∧ w = w' := by
  go_enter Try.func30, Try.ntmps30
  go_wp2
  go_ret
  exact ⟨rfl, rfl⟩
theorem same_plain (b o cap b2 o2 cap2 : Nat) (xs ys : List Int) (hx : Byt xs) (hy : Byt ys) (hl : ys.length = xs.length) (hm : xs.length ≤ 9223372036854775807) (w : World)
    (hc : ∀ i, i < xs.length → w.cell? ⟨b, o + i, none⟩ = some (.int .u8 (nth xs i))) (hd : ∀ i, i < xs.length → w.cell? ⟨b2, o2 + i, none⟩ = some (.int .u8 (nth ys i))) :
    Calls Try.prog 30 #[.slice (some ⟨b, o, none⟩) xs.length cap, .slice (some ⟨b2, o2, none⟩) xs.length cap2] w fun e w' => e = .returned (.bool (decide (xs = ys))) ∧ w = w' := by
  go_enter Try.func30, Try.ntmps30
  go_wp2
  go_loop [5, 15] (fun u i => ∃ (k : Nat) (z : Int), k ≤ xs.length ∧ i = .int .i64 k ∧ u = .int .u8 z ∧ 0 ≤ z ∧ z ≤ 255 ∧ (z = 0 ↔ xs.take k = ys.take k)) (fun _ i => xs.length - (intOf i).toNat)
  case atStart => exact ⟨0, 0, by omega, rfl, rfl, by omega, by omega, by simp⟩
  case round =>
    obtain ⟨k, z, hk, rfl, rfl, h0, h1, hz⟩ := hrel
    have HZ := Lib.hid hz
    clear hz
    by_cases hlt : k < xs.length
    · have c1 := hc k hlt
      have c2 := hd k hlt
      have g1 := hx.nth k
      have g2 := hy.nth k
      have T1 := Lib.hid (take_snoc xs k hlt)
      have T2 := Lib.hid (take_snoc ys k (by omega))
      have X := Lib.hid (xor8_zero (nth xs k) (nth ys k) g1 g2)
      have O := Lib.hid (or8_zero z (bits .xor .u8 (nth xs k) (nth ys k)) ⟨h0, h1⟩ X.out.2)
      have p1 := g1.1
      have p2 := g1.2
      have p3 := g2.1
      have p4 := g2.2
      clear hc hd g1 g2
      go_wp2
      go_round
      case rel =>
        refine ⟨k + 1, _, by omega, by go_num, rfl, O.out.2.1, O.out.2.2, ?_⟩
        rw [O.out.1, X.out.1, HZ.out, T1.out, T2.out]
        constructor
        · rintro ⟨e1, e2⟩
          rw [e1, e2]
        · intro e
          have := List.append_inj e (by simp; omega)
          exact ⟨this.1, by simpa using this.2⟩
      case measure => simp [intOf]; omega
    · obtain rfl : k = xs.length := by omega
      have e1 : xs.take xs.length = xs := List.take_length
      have e2 : ys.take xs.length = ys := by rw [← hl]; exact List.take_length
      have HE : Hid ((z == 0) = decide (xs = ys)) := by
        show (z == 0) = decide (xs = ys)
        have := HZ.out
        rw [e1, e2] at this
        rw [Bool.eq_iff_iff]
        simp [this]
      clear hc hd e1 e2
      go_wp2
      go_ret
      refine ⟨?_, rfl⟩
      rw [← HE.out]
      rfl
theorem same_zero (x y : Option Addr) (c d : Nat) (w : World) : Calls Try.prog 30 #[.slice x 0 c, .slice y 0 d] w fun e w' => e = .returned (.bool true) ∧ w = w' := by
  go_enter Try.func30, Try.ntmps30
  go_wp2
  go_loop [5, 15] (fun u i => u = .int .u8 0 ∧ i = .int .i64 0) (fun _ _ => 0)
  case atStart => exact ⟨rfl, rfl⟩
  case round =>
    obtain ⟨rfl, rfl⟩ := hrel
    go_wp2
    go_ret
    exact ⟨rfl, rfl⟩
theorem same (v u : Value) (xs ys : List Int) (w : World) (h : Sees w v xs) (k : Sees w u ys) : Calls Try.prog 30 #[v, u] w fun e w' => e = .returned (.bool (decide (xs = ys))) ∧ w = w' := by
  by_cases hl : xs.length = ys.length
  · by_cases h0 : xs = []
    · subst h0
      obtain rfl := List.length_eq_zero_iff.1 hl.symm
      obtain ⟨x, c, rfl, _⟩ := h.form
      obtain ⟨y, d, rfl, _⟩ := k.form
      exact same_zero x y c d w
    · have h1 : ys ≠ [] := fun e => h0 (List.length_eq_zero_iff.1 (by rw [hl, e]; rfl))
      obtain ⟨hb, ⟨_, h2⟩ | ⟨_, _, _, h2, _⟩ | ⟨b, o, cap, rfl, _, _, hm, hc⟩⟩ := h
      · exact (h0 h2).elim
      · exact (h0 h2).elim
      obtain ⟨hb2, ⟨_, h2⟩ | ⟨_, _, _, h2, _⟩ | ⟨b2, o2, cap2, rfl, _, _, _, hd⟩⟩ := k
      · exact (h1 h2).elim
      · exact (h1 h2).elim
      rw [← hl] at hd ⊢
      unfold maxLen at hm
      exact same_plain b o cap b2 o2 cap2 xs ys hb hb2 hl.symm (by omega) w hc hd
  · obtain ⟨x, c, rfl, _⟩ := h.form
    obtain ⟨y, d, rfl, _⟩ := k.form
    rw [show decide (xs = ys) = false from decide_eq_false (fun e => hl (by rw [e]))]
    exact same_len x y _ _ c d hl w

/-- Two texts are the same just where their bytes are. -/
theorem str_eq (xs ys : List Int) (hx : Byt xs) (hy : Byt ys) : ((strOfNums xs).toList == (strOfNums ys).toList) = decide (xs = ys) := by
  rw [strOfNums_toList, strOfNums_toList]
  by_cases e : xs = ys
  · subst e; simp
  · have : tob xs ≠ tob ys := fun h => e (tob_inj hx hy h)
    simp [e, this]
end Go.Proofs.Ytabopcfhonkecaa.os
