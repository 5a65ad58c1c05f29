/-
  Contracts of the functions that the statements of package gf go through: the document's inverses and powers. Condition: the numbers are bytes.
-/
import Derived.Test.YtpkeofioobmmoaaGreatDoorAeF
namespace Go.Proofs.YtpkeofioobmmoaaGreatDoor.ae
open Go.RowKit
set_option maxRecDepth 100000 in
set_option maxHeartbeats 2000000 in
theorem refInverse (a : Nat) (ha : a < 256) (w : World) : Calls Tryz.prog 89 #[.int .u8 a] w fun e w' => e = .returned (.int .u8 (inv a : Nat)) ∧ w = w' := by
  go_enter Tryz.func89, Tryz.ntmps89
  go_wp2
  go_loop [3] (fun vi => ∃ k : Nat, 1 ≤ k ∧ k ≤ 256 ∧ vi = .int .i64 k ∧ ∀ j, 1 ≤ j → j < k → mul a j ≠ 1) (fun vi => 256 - (intOf vi).toNat)
  case atStart => exact ⟨1, by omega, by omega, rfl, fun j h1 h2 => absurd h2 (by omega)⟩
  case round =>
    obtain ⟨k, hk1, hk2, rfl, hno⟩ := hrel
    by_cases hlt : k < 256
    · have hw : (k : Int) % 256 = k := by omega
      have HN := Lib.hid hno
      clear hno
      have HM := Lib.hid (refMul a k ha hlt)
      by_cases h1 : mul a k = 1
      · have hi : k = inv a := inv_one ha hlt h1
        have HI := Lib.hid hi
        have M1 : Hid (∀ w, Calls Tryz.prog 71 #[.int .u8 a, .int .u8 k] w fun e w' => e = .returned (.int .u8 1) ∧ w = w') := by
          intro w; have h := refMul a k ha hlt w; rw [h1] at h; exact h
        clear hi h1 HM
        go_wp2_with fail
        refine (M1.out _).mono ?_
        rintro e w' ⟨rfl, rfl⟩
        go_wp2_with fail
        go_ret
        exact ⟨ret_u8 (by rw [← HI.out]), rfl⟩
      · have H1 := Lib.hid h1
        have z : ((mul a k : Int) == 1) = false := by simp; omega
        clear h1
        generalize hg : mul a k = m at *
        have HG := Lib.hid hg
        clear hg
        go_wp2_with fail
        refine (HM.out _).mono ?_
        rintro e w' ⟨rfl, rfl⟩
        go_wp2_with fail
        go_round
        case rel =>
          refine ⟨k + 1, by omega, by omega, by go_num, fun j h1 h2 => ?_⟩
          by_cases e : j = k
          · subst e; exact fun h => H1.out (HG.out.symm.trans h)
          · exact HN.out j h1 (by omega)
        case measure => simp [intOf]; omega
    · obtain rfl : k = 256 := by omega
      have h0 : a = 0 := by
        apply Decidable.byContradiction
        intro h0
        have hi := inv_lt ha
        have h1 := (inv_of ha h0).1
        by_cases e : inv a = 0
        · rw [e, mul_zero] at h1; exact absurd h1 (by decide)
        · exact hno (inv a) (by omega) hi h1
      clear hno
      subst h0
      have HI : Hid (inv 0 = 0) := inv_zero
      go_wp2_with fail
      go_ret
      exact ⟨ret_u8 (by rw [HI.out]; rfl), rfl⟩
set_option maxRecDepth 100000 in
set_option maxHeartbeats 2000000 in
theorem refPower (a : Nat) (n : Int) (ha : a < 256) (hn : n ≤ 600) (w : World) : Calls Tryz.prog 52 #[.int .u8 a, .int .i64 n] w fun e w' => e = .returned (.int .u8 (gpw a n : Nat)) ∧ w = w' := by
  by_cases hneg : n ≤ 0
  · have H : Hid (gpw a n = 1) := by
      show _ = _
      unfold gpw; rw [show n.toNat = 0 by omega]; rfl
    have h0 : ¬ (0 : Int) < n := by omega
    go_enter Tryz.func52, Tryz.ntmps52
    go_wp2
    refine wp_loop_rounds 1 ?_
    rw [rounds_succ]
    go_wp2
    go_ret
    exact ⟨ret_u8 (by rw [H.out]; rfl), rfl⟩
  · obtain ⟨m, rfl⟩ := Int.eq_ofNat_of_zero_le (show 0 ≤ n by omega)
    have hG : gpw a (m : Int) = npow a m := by unfold gpw; simp
    have HG := Lib.hid hG
    clear hG hneg
    go_enter Tryz.func52, Tryz.ntmps52
    go_wp2
    go_loop [5, 6] (fun vo vi => ∃ k : Nat, k ≤ m ∧ vi = .int .i64 k ∧ vo = .int .u8 (npow a k : Nat)) (fun _ vi => m - (intOf vi).toNat)
    case atStart => exact ⟨0, by omega, rfl, rfl⟩
    case round =>
      obtain ⟨k, hk, rfl, rfl⟩ := hrel
      have hp := npow_lt ha k
      by_cases hlt : k < m
      · have HM := Lib.hid (refMul (npow a k) a hp ha)
        go_wp2_with fail
        refine (HM.out _).mono ?_
        rintro e w' ⟨rfl, rfl⟩
        go_wp2_with fail
        go_round
        case rel => exact ⟨k + 1, by omega, by go_num, rfl⟩
        case measure => simp [intOf]; omega
      · obtain rfl : k = m := by omega
        go_wp2_with fail
        go_ret
        exact ⟨ret_u8 (by rw [HG.out]), rfl⟩
end Go.Proofs.YtpkeofioobmmoaaGreatDoor.ae
