/-
  Contracts of the functions that the statements of package gf go through: doubles, products. Condition: the numbers are bytes.
-/
import Derived.Test.YtpkeofioobmmoaaGreatDoorProg
import Derived.Test.YtpkeofioobmmoaaGreatDoorAeM
import Derived.WalkKit
import Derived.Lib.Hide
import Derived.KernelRfl
import Derived.Outline
namespace Go.Proofs.YtpkeofioobmmoaaGreatDoor.ae
open Go.RowKit

theorem u8nat (n : Nat) (h : n < 256) : IntKind.u8.wrap (n : Int) = n := by
  simp [IntKind.wrap, IntKind.bits, IntKind.signed]
  omega
theorem xor8 (a b : Nat) (ha : a < 256) (hb : b < 256) : bits .xor .u8 (a : Int) (b : Int) = ((Nat.xor a b : Nat) : Int) := by
  have e : bits .xor .u8 (a : Int) (b : Int) = IntKind.u8.wrap ((BitVec.ofInt 8 (a : Int) ^^^ BitVec.ofInt 8 (b : Int)).toNat : Int) := rfl
  rw [e, BitVec.ofInt_natCast, BitVec.ofInt_natCast, BitVec.toNat_xor, BitVec.toNat_ofNat, BitVec.toNat_ofNat, Nat.mod_eq_of_lt ha, Nat.mod_eq_of_lt hb]
  exact u8nat _ (xor_lt ha hb)
theorem and8 (a b : Nat) (ha : a < 256) (hb : b < 256) : bits .and .u8 (a : Int) (b : Int) = ((Nat.land a b : Nat) : Int) := by
  have e : bits .and .u8 (a : Int) (b : Int) = IntKind.u8.wrap ((BitVec.ofInt 8 (a : Int) &&& BitVec.ofInt 8 (b : Int)).toNat : Int) := rfl
  rw [e, BitVec.ofInt_natCast, BitVec.ofInt_natCast, BitVec.toNat_and, BitVec.toNat_ofNat, BitVec.toNat_ofNat, Nat.mod_eq_of_lt ha, Nat.mod_eq_of_lt hb]
  exact u8nat _ (Nat.and_lt_two_pow (n := 8) a hb)
theorem or8 (a b : Nat) (ha : a < 256) (hb : b < 256) : bits .or .u8 (a : Int) (b : Int) = ((Nat.lor a b : Nat) : Int) := by
  have e : bits .or .u8 (a : Int) (b : Int) = IntKind.u8.wrap ((BitVec.ofInt 8 (a : Int) ||| BitVec.ofInt 8 (b : Int)).toNat : Int) := rfl
  rw [e, BitVec.ofInt_natCast, BitVec.ofInt_natCast, BitVec.toNat_or, BitVec.toNat_ofNat, BitVec.toNat_ofNat, Nat.mod_eq_of_lt ha, Nat.mod_eq_of_lt hb]
  exact u8nat _ (Nat.or_lt_two_pow (n := 8) ha hb)
theorem ret_u8 {a b : Int} (h : a = b) : Ending.returned (.int .u8 a) = .returned (.int .u8 b) := by rw [h]

theorem dbl_all : alln (fun a => Nat.beq (Nat.xor (a * 2 % 256) (a / 128 * 27)) (dbl a)) 256 = true := by decide +kernel
theorem double (a : Nat) (ha : a < 256) (w : World) : Calls Tryz.prog 96 #[.int .u8 a] w fun e w' => e = .returned (.int .u8 (dbl a : Nat)) ∧ w = w' := by
  go_enter Tryz.func96, Tryz.ntmps96
  go_wp2
  go_ret
  refine ⟨ret_u8 ?_, rfl⟩
  have h := xor8 (a * 2 % 256) (a / 128 * 27) (by omega) (by omega)
  rw [Nat.eq_of_beq_eq_true (alln_of dbl_all a ha)] at h
  exact h
theorem mul_step (a b o : Nat) (h : b < 256) : mulg 8 a b o = mulg 8 (dbl a) (b / 2) (cond (Nat.beq (b % 2) 1) (Nat.xor o a) o) := by
  have e : mulg 8 a b o = mulg 7 (dbl a) (b / 2) (cond (Nat.beq (b % 2) 1) (Nat.xor o a) o) := rfl
  rw [e, mulg_out, mulg_out 8, mulg_more 7 _ _ (by omega)]
theorem land1 (b : Nat) : Nat.land b 1 = b % 2 := Nat.and_one_is_mod b
set_option maxHeartbeats 1000000 in
theorem gmul (a b : Nat) (ha : a < 256) (hb : b < 256) (w : World) : Calls Tryz.prog 85 #[.int .u8 a, .int .u8 b] w fun e w' => e = .returned (.int .u8 (mul a b : Nat)) ∧ w = w' := by
  go_enter Tryz.func85, Tryz.ntmps85
  go_wp2
  go_loop [0, 1, 5] (fun va vb vo => ∃ a' b' o' : Nat, a' < 256 ∧ b' < 256 ∧ o' < 256 ∧ va = .int .u8 a' ∧ vb = .int .u8 b' ∧ vo = .int .u8 o' ∧ mulg 8 a' b' o' = mul a b) (fun _ vb _ => (intOf vb).toNat)
  case atStart => exact ⟨a, b, 0, ha, hb, by omega, rfl, rfl, rfl, rfl⟩
  case round =>
    obtain ⟨a', b', o', ha', hb', ho', rfl, rfl, rfl, hm⟩ := hrel
    by_cases h0 : b' = 0
    · subst h0
      rw [mulg_z] at hm
      have HM := Lib.hid hm
      clear hm
      go_wp2
      go_ret
      exact ⟨ret_u8 (by rw [HM.out]), rfl⟩
    · have hp : (0 : Int) < b' := by omega
      have hand := and8 b' 1 hb' (by omega)
      rw [land1] at hand
      rw [mul_step a' b' o' hb'] at hm
      have HX := Lib.hid (xor8 o' a' ho' ha')
      have hlt := xor_lt ho' ha'
      have hdl := dbl_lt ha'
      by_cases h1 : b' % 2 = 1
      · rw [h1] at hand hm
        have HM := Lib.hid hm
        clear hm
        have hand' : bits .and .u8 (b' : Int) 1 = 1 := hand
        clear hand
        go_wp2_with (go_at_call 96; refine (double a' ha' _).mono ?_; rintro e w' ⟨rfl, rfl⟩)
        go_round
        case rel => exact ⟨dbl a', b' / 2, Nat.xor o' a', hdl, by omega, hlt, rfl, by simp, by rw [HX.out], HM.out⟩
        case measure => simp [intOf]; omega
      · have h2 : b' % 2 = 0 := by omega
        rw [h2] at hand hm
        have HM := Lib.hid hm
        clear hm
        have hand' : bits .and .u8 (b' : Int) 1 = 0 := hand
        clear hand
        go_wp2_with (go_at_call 96; refine (double a' ha' _).mono ?_; rintro e w' ⟨rfl, rfl⟩)
        go_round
        case rel => exact ⟨dbl a', b' / 2, o', hdl, by omega, ho', rfl, by simp, rfl, HM.out⟩
        case measure => simp [intOf]; omega
end Go.Proofs.YtpkeofioobmmoaaGreatDoor.ae
