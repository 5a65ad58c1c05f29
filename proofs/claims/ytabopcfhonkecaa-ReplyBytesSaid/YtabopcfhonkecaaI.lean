/-
  Contracts of the functions that the statements of package octet go through: are bytes the same? Condition: the slices read as bytes.
-/
import Derived.Test.YtabopcfhonkecaaH
namespace Go.Proofs.Ytabopcfhonkecaa
open Go.RowKit

theorem u8nat (n : Nat) (h : n < 256) : IntKind.u8.wrap (n : Int) = n := by
  simp [IntKind.wrap, IntKind.bits, IntKind.signed]
  omega
theorem ofInt8 (a : Nat) : BitVec.ofInt IntKind.u8.bits (a : Int) = BitVec.ofNat 8 a := BitVec.ofInt_natCast ..
theorem bits_xor8 (a b : Nat) : bits .xor .u8 (a : Int) (b : Int) = ((BitVec.ofNat 8 a ^^^ BitVec.ofNat 8 b).toNat : Int) := by
  have e : bits .xor .u8 (a : Int) (b : Int) = IntKind.u8.wrap ((BitVec.ofInt 8 (a : Int) ^^^ BitVec.ofInt 8 (b : Int)).toNat : Int) := rfl
  rw [e, BitVec.ofInt_natCast, BitVec.ofInt_natCast]
  exact u8nat _ (BitVec.isLt _)
theorem bits_or8 (a b : Nat) : bits .or .u8 (a : Int) (b : Int) = ((BitVec.ofNat 8 a ||| BitVec.ofNat 8 b).toNat : Int) := by
  have e : bits .or .u8 (a : Int) (b : Int) = IntKind.u8.wrap ((BitVec.ofInt 8 (a : Int) ||| BitVec.ofInt 8 (b : Int)).toNat : Int) := rfl
  rw [e, BitVec.ofInt_natCast, BitVec.ofInt_natCast]
  exact u8nat _ (BitVec.isLt _)
theorem xor8_zero (x y : Int) (hx : 0 ≤ x ∧ x ≤ 255) (hy : 0 ≤ y ∧ y ≤ 255) : (bits .xor .u8 x y = 0 ↔ x = y) ∧ 0 ≤ bits .xor .u8 x y ∧ bits .xor .u8 x y ≤ 255 := by
  obtain ⟨a, rfl⟩ := Int.eq_ofNat_of_zero_le hx.1
  obtain ⟨b, rfl⟩ := Int.eq_ofNat_of_zero_le hy.1
  rw [bits_xor8]
  have hl := (BitVec.ofNat 8 a ^^^ BitVec.ofNat 8 b).isLt
  refine ⟨?_, by omega, by omega⟩
  constructor
  · intro h
    have h1 : (BitVec.ofNat 8 a ^^^ BitVec.ofNat 8 b) = 0#8 := BitVec.eq_of_toNat_eq ((Int.ofNat_eq_zero.1 h).trans rfl)
    have h2 := BitVec.xor_eq_zero_iff.1 h1
    have h3 := congrArg BitVec.toNat h2
    simp at h3
    omega
  · intro h
    have : a = b := by omega
    subst this
    simp
theorem or8_zero (x y : Int) (hx : 0 ≤ x ∧ x ≤ 255) (hy : 0 ≤ y ∧ y ≤ 255) : (bits .or .u8 x y = 0 ↔ x = 0 ∧ y = 0) ∧ 0 ≤ bits .or .u8 x y ∧ bits .or .u8 x y ≤ 255 := by
  obtain ⟨a, rfl⟩ := Int.eq_ofNat_of_zero_le hx.1
  obtain ⟨b, rfl⟩ := Int.eq_ofNat_of_zero_le hy.1
  rw [bits_or8]
  have hl := (BitVec.ofNat 8 a ||| BitVec.ofNat 8 b).isLt
  refine ⟨?_, by omega, by omega⟩
  constructor
  · intro h
    have h1 : (BitVec.ofNat 8 a ||| BitVec.ofNat 8 b) = 0#8 := BitVec.eq_of_toNat_eq ((Int.ofNat_eq_zero.1 h).trans rfl)
    have h2 := BitVec.or_eq_zero_iff.1 h1
    have h3 := congrArg BitVec.toNat h2.1
    have h4 := congrArg BitVec.toNat h2.2
    simp at h3 h4
    omega
  · intro h
    have h1 : a = 0 := by omega
    have h2 : b = 0 := by omega
    subst h1 h2
    simp

/-- Two texts are the same just where their bytes are. -/
theorem str_eq (xs ys : List Int) (hx : Byt xs) (hy : Byt ys) : ((strOfNums xs).toList == (strOfNums ys).toList) = decide (xs = ys) := by
  rw [strOfNums_toList, strOfNums_toList]
  by_cases e : xs = ys
  · subst e; simp
  · have : tob xs ≠ tob ys := fun h => e (tob_inj hx hy h)
    simp [e, this]
end Go.Proofs.Ytabopcfhonkecaa
