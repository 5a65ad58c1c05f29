/-
  Contracts of the functions that the statements of package gf go through: powers, inverses, boxes one by one. Condition: the numbers are bytes.
-/
import Derived.Test.YtpkeofioobmmoaaGreatDoorAeA
namespace Go.Proofs.YtpkeofioobmmoaaGreatDoor.ae
open Go.RowKit
theorem ofInt_i64 (a : Nat) (ha : a < 9223372036854775808) : (BitVec.ofInt 64 (a : Int)).toNat = a := by
  rw [BitVec.ofInt_natCast, BitVec.toNat_ofNat]; exact Nat.mod_eq_of_lt (by omega)
theorem and64 (a : Nat) (ha : a < 9223372036854775808) : bits .and .i64 (a : Int) 1 = ((a % 2 : Nat) : Int) := by
  have e : bits .and .i64 (a : Int) 1 = IntKind.i64.wrap ((BitVec.ofInt 64 (a : Int) &&& BitVec.ofInt 64 ((1 : Nat) : Int)).toNat : Int) := rfl
  rw [e, BitVec.toNat_and, ofInt_i64 a ha, ofInt_i64 1 (by omega), Nat.and_one_is_mod, IntKind.wrap_i64]
  omega
/-- What Power tells. -/
def gpw (a : Nat) (n : Int) : Nat := npow a n.toNat
set_option maxHeartbeats 1000000 in
theorem power (a : Nat) (n : Int) (ha : a < 256) (hn : -9223372036854775808 ≤ n) (hn2 : n ≤ 9223372036854775807) (w : World) :
    Calls Tryz.prog 87 #[.int .u8 a, .int .i64 n] w fun e w' => e = .returned (.int .u8 (gpw a n : Nat)) ∧ w = w' := by
  by_cases hneg : n ≤ 0
  · have H : Hid (gpw a n = 1) := by
      show _ = _
      unfold gpw; rw [show n.toNat = 0 by omega]; rfl
    have h0 : ¬ (0 : Int) < n := by omega
    go_enter Tryz.func87, Tryz.ntmps87
    go_wp2
    refine wp_loop_rounds 1 ?_
    rw [rounds_succ]
    go_wp2
    go_ret
    exact ⟨ret_u8 (by rw [H.out]; rfl), rfl⟩
  · obtain ⟨m, rfl⟩ := Int.eq_ofNat_of_zero_le (show 0 ≤ n by omega)
    have hG : gpw a (m : Int) = npow a m := by unfold gpw; simp
    have hM0 : mul 1 (npow a m) = gpw a (m : Int) := by rw [one_mul (npow_lt ha m), hG]
    have HM0 := Lib.hid hM0
    have hm63 : m < 9223372036854775808 := by omega
    generalize hgg : gpw a (m : Int) = G at HM0
    clear hG hM0 hgg hneg hn hn2
    go_enter Tryz.func87, Tryz.ntmps87
    go_wp2
    go_loop [0, 1, 5] (fun va vn vo => ∃ a' n' o' : Nat, a' < 256 ∧ n' < 9223372036854775808 ∧ o' < 256 ∧ va = .int .u8 a' ∧ vn = .int .i64 n' ∧ vo = .int .u8 o' ∧ mul o' (npow a' n') = G) (fun _ vn _ => (intOf vn).toNat)
    case atStart => exact ⟨a, m, 1, ha, hm63, by omega, rfl, rfl, rfl, HM0.out⟩
    case round =>
      obtain ⟨a', n', o', ha', hn', ho', rfl, rfl, rfl, hm⟩ := hrel
      by_cases h0 : n' = 0
      · subst h0
        have hm' : o' = G := by rw [← hm]; exact (mul_one ho').symm
        have HM := Lib.hid hm'
        clear hm hm'
        go_wp2
        go_ret
        exact ⟨ret_u8 (by rw [HM.out]), rfl⟩
      · have hp : (0 : Int) < n' := by omega
        have hand := and64 n' hn'
        rw [← pow_step ha' ho'] at hm
        have hx := mul_lt a' ho'
        have hy := mul_lt a' ha'
        by_cases h1 : n' % 2 = 1
        · rw [h1] at hand hm
          have HM := Lib.hid hm
          clear hm
          have hand' : bits .and .i64 (n' : Int) 1 = 1 := hand
          clear hand
          go_wp2_with fail
          refine (gmul o' a' ho' ha' _).mono ?_
          rintro e w' ⟨rfl, rfl⟩
          go_wp2_with fail
          refine (gmul a' a' ha' ha' _).mono ?_
          rintro e w' ⟨rfl, rfl⟩
          go_wp2_with fail
          go_round
          case rel => exact ⟨mul a' a', n' / 2, mul o' a', hy, by omega, hx, rfl, by simp, rfl, HM.out⟩
          case measure => simp [intOf]; omega
        · have h2 : n' % 2 = 0 := by omega
          rw [h2] at hand hm
          have HM := Lib.hid hm
          clear hm
          have hand' : bits .and .i64 (n' : Int) 1 = 0 := hand
          clear hand
          go_wp2_with fail
          refine (gmul a' a' ha' ha' _).mono ?_
          rintro e w' ⟨rfl, rfl⟩
          go_wp2_with fail
          go_round
          case rel => exact ⟨mul a' a', n' / 2, o', hy, by omega, ho', rfl, by simp, rfl, HM.out⟩
          case measure => simp [intOf]; omega
theorem lor_rot (n x : Nat) (h1 : 1 ≤ n) (h2 : n ≤ 4) (hx : x < 256) : Nat.lor (x * 2 ^ n % 256) (x / 2 ^ (8 - n)) = rotl n x := by
  have key : ∀ n, 1 ≤ n → n ≤ 4 → alln (fun x => Nat.beq (Nat.lor (x * 2 ^ n % 256) (x / 2 ^ (8 - n))) (rotl n x)) 256 = true := by
    intro n h1 h2
    have : n = 1 ∨ n = 2 ∨ n = 3 ∨ n = 4 := by omega
    rcases this with rfl | rfl | rfl | rfl <;> decide +kernel
  exact Nat.eq_of_beq_eq_true (alln_of (key n h1 h2) x hx)
theorem rot1 (x : Nat) (hx : x < 256) (w : World) : Calls Tryz.prog 86 #[.int .u8 x, .int .i64 1] w fun e w' => e = .returned (.int .u8 (rotl 1 x : Nat)) ∧ w = w' := by
  have ho := or8 (x * 2 ^ 1 % 256) (x / 2 ^ (8 - 1)) (Nat.mod_lt _ (by omega)) (Nat.lt_of_le_of_lt (Nat.div_le_self _ _) hx)
  rw [lor_rot 1 x (by omega) (by omega) hx] at ho
  have H := Lib.hid ho
  clear ho
  have hb : bits .and .u64 1 7 = 1 := by kernel_rfl
  go_enter Tryz.func86, Tryz.ntmps86
  go_wp2
  go_ret
  refine ⟨ret_u8 ?_, rfl⟩
  rw [← H.out]
  rfl
theorem rot2 (x : Nat) (hx : x < 256) (w : World) : Calls Tryz.prog 86 #[.int .u8 x, .int .i64 2] w fun e w' => e = .returned (.int .u8 (rotl 2 x : Nat)) ∧ w = w' := by
  have ho := or8 (x * 2 ^ 2 % 256) (x / 2 ^ (8 - 2)) (Nat.mod_lt _ (by omega)) (Nat.lt_of_le_of_lt (Nat.div_le_self _ _) hx)
  rw [lor_rot 2 x (by omega) (by omega) hx] at ho
  have H := Lib.hid ho
  clear ho
  have hb : bits .and .u64 2 7 = 2 := by kernel_rfl
  go_enter Tryz.func86, Tryz.ntmps86
  go_wp2
  go_ret
  refine ⟨ret_u8 ?_, rfl⟩
  rw [← H.out]
  rfl
theorem rot3 (x : Nat) (hx : x < 256) (w : World) : Calls Tryz.prog 86 #[.int .u8 x, .int .i64 3] w fun e w' => e = .returned (.int .u8 (rotl 3 x : Nat)) ∧ w = w' := by
  have ho := or8 (x * 2 ^ 3 % 256) (x / 2 ^ (8 - 3)) (Nat.mod_lt _ (by omega)) (Nat.lt_of_le_of_lt (Nat.div_le_self _ _) hx)
  rw [lor_rot 3 x (by omega) (by omega) hx] at ho
  have H := Lib.hid ho
  clear ho
  have hb : bits .and .u64 3 7 = 3 := by kernel_rfl
  go_enter Tryz.func86, Tryz.ntmps86
  go_wp2
  go_ret
  refine ⟨ret_u8 ?_, rfl⟩
  rw [← H.out]
  rfl
theorem rot4 (x : Nat) (hx : x < 256) (w : World) : Calls Tryz.prog 86 #[.int .u8 x, .int .i64 4] w fun e w' => e = .returned (.int .u8 (rotl 4 x : Nat)) ∧ w = w' := by
  have ho := or8 (x * 2 ^ 4 % 256) (x / 2 ^ (8 - 4)) (Nat.mod_lt _ (by omega)) (Nat.lt_of_le_of_lt (Nat.div_le_self _ _) hx)
  rw [lor_rot 4 x (by omega) (by omega) hx] at ho
  have H := Lib.hid ho
  clear ho
  have hb : bits .and .u64 4 7 = 4 := by kernel_rfl
  go_enter Tryz.func86, Tryz.ntmps86
  go_wp2
  go_ret
  refine ⟨ret_u8 ?_, rfl⟩
  rw [← H.out]
  rfl
theorem rotl_lt (n x : Nat) (h1 : 1 ≤ n) (h2 : n ≤ 4) (hx : x < 256) : rotl n x < 256 := by
  rw [← lor_rot n x h1 h2 hx]
  exact Nat.or_lt_two_pow (n := 8) (Nat.mod_lt _ (by omega)) (Nat.lt_of_le_of_lt (Nat.div_le_self _ _) hx)
set_option maxHeartbeats 1000000 in
theorem mixed (x : Nat) (hx : x < 256) (w : World) : Calls Tryz.prog 68 #[.int .u8 x] w fun e w' => e = .returned (.int .u8 (mix x : Nat)) ∧ w = w' := by
  have b1 := rotl_lt 1 x (by omega) (by omega) hx
  have b2 := rotl_lt 2 x (by omega) (by omega) hx
  have b3 := rotl_lt 3 x (by omega) (by omega) hx
  have b4 := rotl_lt 4 x (by omega) (by omega) hx
  have c0 := xor_lt hx (show 99 < 256 by omega)
  have e0 := xor8 x 99 hx (by omega)
  have c1 := xor_lt c0 b1
  have e1 := xor8 _ _ c0 b1
  have c2 := xor_lt c1 b2
  have e2 := xor8 _ _ c1 b2
  have c3 := xor_lt c2 b3
  have e3 := xor8 _ _ c2 b3
  have e4 := xor8 _ _ c3 b4
  have H : Hid (bits .xor .u8 (bits .xor .u8 (bits .xor .u8 (bits .xor .u8 (bits .xor .u8 (x : Int) 99) (rotl 1 x : Nat)) (rotl 2 x : Nat)) (rotl 3 x : Nat)) (rotl 4 x : Nat) = (mix x : Nat)) := by
    show _ = _
    have e0' : bits .xor .u8 (x : Int) 99 = ((Nat.xor x 99 : Nat) : Int) := e0
    rw [e0', e1, e2, e3, e4]
    rfl
  have hsg : IntKind.u8.signed = false := rfl
  clear b1 b2 b3 b4 c0 c1 c2 c3 e0 e1 e2 e3 e4
  go_enter Tryz.func68, Tryz.ntmps68
  go_wp2
  refine wp_loop_rounds 5 ?_
  rw [rounds_succ]
  go_wp2_with fail
  refine (rot1 x hx _).mono ?_
  rintro e w' ⟨rfl, rfl⟩
  go_wp2_with fail
  rw [rounds_succ]
  go_wp2_with fail
  refine (rot2 x hx _).mono ?_
  rintro e w' ⟨rfl, rfl⟩
  go_wp2_with fail
  rw [rounds_succ]
  go_wp2_with fail
  refine (rot3 x hx _).mono ?_
  rintro e w' ⟨rfl, rfl⟩
  go_wp2_with fail
  rw [rounds_succ]
  go_wp2_with fail
  refine (rot4 x hx _).mono ?_
  rintro e w' ⟨rfl, rfl⟩
  go_wp2_with fail
  rw [rounds_succ]
  go_wp2_with fail
  go_ret
  exact ⟨ret_u8 H.out, rfl⟩
end Go.Proofs.YtpkeofioobmmoaaGreatDoor.ae
