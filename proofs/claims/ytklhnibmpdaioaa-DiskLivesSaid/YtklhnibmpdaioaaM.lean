/-
  Words of 64 digits: what a digit is, and what 'and', 'or' and 'and not' make of one. Condition: the words are below 2^64.
-/
import Derived.WalkKit
import Derived.Laws.Entries
namespace Go.Proofs.Ytklhnibmpdaioaa
theorem u64_wrap (m : Nat) (h : m < 2 ^ 64) : IntKind.u64.wrap (m : Int) = m := by
  have : IntKind.u64.wrap (m : Int) = (m : Int) % 18446744073709551616 := by simp [IntKind.wrap, IntKind.bits, IntKind.signed]
  rw [this]
  have h2 : (2 : Nat) ^ 64 = 18446744073709551616 := by decide
  omega
theorem ofInt64 (m : Nat) : BitVec.ofInt 64 (m : Int) = BitVec.ofNat 64 m := by rw [BitVec.ofInt_natCast]
theorem u64_and (m k : Nat) (hm : m < 2 ^ 64) (hk : k < 2 ^ 64) : bits .and .u64 (m : Int) (k : Int) = ((m &&& k : Nat) : Int) := by
  show IntKind.u64.wrap ((BitVec.ofInt 64 (m : Int) &&& BitVec.ofInt 64 (k : Int)).toNat : Int) = _
  rw [BitVec.toNat_and, ofInt64, ofInt64, BitVec.toNat_ofNat, BitVec.toNat_ofNat, Nat.mod_eq_of_lt hm, Nat.mod_eq_of_lt hk]
  exact u64_wrap _ (Nat.and_lt_two_pow _ hk)
theorem u64_or (m k : Nat) (hm : m < 2 ^ 64) (hk : k < 2 ^ 64) : bits .or .u64 (m : Int) (k : Int) = ((m ||| k : Nat) : Int) := by
  show IntKind.u64.wrap ((BitVec.ofInt 64 (m : Int) ||| BitVec.ofInt 64 (k : Int)).toNat : Int) = _
  rw [BitVec.toNat_or, ofInt64, ofInt64, BitVec.toNat_ofNat, BitVec.toNat_ofNat, Nat.mod_eq_of_lt hm, Nat.mod_eq_of_lt hk]
  exact u64_wrap _ (Nat.or_lt_two_pow hm hk)
/-- A word without the digits of another one. -/
def nots (m k : Nat) : Nat := (BitVec.ofNat 64 m &&& ~~~ BitVec.ofNat 64 k).toNat
theorem nots_lt (m k : Nat) : nots m k < 2 ^ 64 := BitVec.isLt _
theorem u64_nots (m k : Nat) : bits .andNot .u64 (m : Int) (k : Int) = ((nots m k : Nat) : Int) := by
  show IntKind.u64.wrap ((BitVec.ofInt 64 (m : Int) &&& ~~~ BitVec.ofInt 64 (k : Int)).toNat : Int) = _
  rw [ofInt64, ofInt64]
  exact u64_wrap _ (BitVec.isLt _)
theorem nots_bit (m k i : Nat) (hi : i < 64) : (nots m k).testBit i = (m.testBit i && !k.testBit i) := by
  unfold nots
  rw [BitVec.testBit_toNat, BitVec.getLsbD_and, BitVec.getLsbD_not, BitVec.getLsbD_ofNat, BitVec.getLsbD_ofNat]
  simp [hi]
theorem pow_bit (j i : Nat) : (2 ^ j).testBit i = decide (j = i) := by rw [Nat.testBit_two_pow]
theorem or_bit (m j i : Nat) : (m ||| 2 ^ j).testBit i = (m.testBit i || decide (j = i)) := by rw [Nat.testBit_or, pow_bit]
theorem nots_pow_bit (m j i : Nat) (hi : i < 64) : (nots m (2 ^ j)).testBit i = (m.testBit i && !decide (j = i)) := by rw [nots_bit _ _ _ hi, pow_bit]
theorem pow_lt (j : Nat) (h : j < 64) : 2 ^ j < 2 ^ 64 := Nat.pow_lt_pow_right (by omega) h
theorem and_pow (m j : Nat) : (m &&& 2 ^ j = 0) ↔ m.testBit j = false := by
  constructor
  · intro h
    have := congrArg (fun x => Nat.testBit x j) h
    simpa [Nat.testBit_and, pow_bit] using this
  · intro h
    apply Nat.eq_of_testBit_eq
    intro i
    rw [Nat.testBit_and, pow_bit, Nat.zero_testBit]
    by_cases e : j = i
    · subst e; simp [h]
    · simp [e]
theorem full_bit (m : Nat) (hm : m < 2 ^ 64) : m = 18446744073709551615 ↔ ∀ i, i < 64 → m.testBit i = true := by
  have e : (18446744073709551615 : Nat) = 2 ^ 64 - 1 := by decide
  constructor
  · intro h i hi
    rw [h, e, Nat.testBit_two_pow_sub_one]
    simpa using hi
  · intro h
    rw [e]
    apply Nat.eq_of_testBit_eq
    intro i
    rw [Nat.testBit_two_pow_sub_one]
    by_cases hi : i < 64
    · rw [h i hi]; simp [hi]
    · rw [Nat.testBit_lt_two_pow (Nat.lt_of_lt_of_le hm (Nat.pow_le_pow_right (by omega) (by omega)))]; simp [hi]
end Go.Proofs.Ytklhnibmpdaioaa
