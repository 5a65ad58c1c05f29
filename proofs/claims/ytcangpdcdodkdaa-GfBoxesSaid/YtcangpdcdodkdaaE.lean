/-
  Contracts of the functions that the statements of package gf go through: what must come of fixed calls. No condition.
-/
import Derived.Test.YtcangpdcdodkdaaD
namespace Go.Proofs.Ytcangpdcdodkdaa
open Go.RowKit
theorem m193 (w : World) : Calls Try.prog 19 #[.int .u8 87, .int .u8 131] w fun e w' => e = .returned (.int .u8 193) ∧ w = w' := by
  have h := gmul 87 131 (by omega) (by omega) w
  rw [show mul 87 131 = 193 from by decide +kernel] at h; exact h
theorem b99 (w : World) : Calls Try.prog 27 #[.int .u8 0] w fun e w' => e = .returned (.int .u8 99) ∧ w = w' := by
  have h := boxed 0 (by omega) w
  rw [show box 0 = 99 from by decide +kernel] at h; exact h
theorem b237 (w : World) : Calls Try.prog 27 #[.int .u8 83] w fun e w' => e = .returned (.int .u8 237) ∧ w = w' := by
  have h := boxed 83 (by omega) w
  rw [show box 83 = 237 from by decide +kernel] at h; exact h
theorem u0 (w : World) : Calls Try.prog 28 #[.int .u8 99] w fun e w' => e = .returned (.int .u8 0) ∧ Below w.heap.size w w' := by
  have h := unbox 99 (by omega) w
  rw [show unb 99 = 0 from by decide +kernel] at h; exact h
theorem u83 (w : World) : Calls Try.prog 28 #[.int .u8 237] w fun e w' => e = .returned (.int .u8 83) ∧ Below w.heap.size w w' := by
  have h := unbox 237 (by omega) w
  rw [show unb 237 = 83 from by decide +kernel] at h; exact h
theorem i1 (w : World) : Calls Try.prog 21 #[.int .u8 1] w fun e w' => e = .returned (.int .u8 1) ∧ w = w' := by
  have h := inverse 1 (by omega) w
  rw [show inv 1 = 1 from by decide +kernel] at h; exact h
set_option maxHeartbeats 1000000 in
theorem alive (w : World) : Calls Try.prog 18 #[] w fun e w' => e = .returned (.bool true) ∧ Below w.heap.size w w' := by
  go_enter Try.func18, Try.ntmps18
  go_wp2_with fail
  refine (m193 _).mono ?_
  rintro e w' ⟨rfl, rfl⟩
  go_wp2_with fail
  refine (b99 _).mono ?_
  rintro e w' ⟨rfl, rfl⟩
  go_wp2_with fail
  refine (b237 _).mono ?_
  rintro e w' ⟨rfl, rfl⟩
  go_wp2_with fail
  refine (u0 _).mono ?_
  rintro e w1 ⟨rfl, hb⟩
  have B1 := Lib.hid hb
  clear hb
  go_wp2_with fail
  refine (u83 _).mono ?_
  rintro e w2 ⟨rfl, hb⟩
  have B2 := Lib.hid hb
  clear hb
  go_wp2_with fail
  refine (i1 _).mono ?_
  rintro e w' ⟨rfl, rfl⟩
  go_wp2_with fail
  go_ret
  exact ⟨rfl, B1.out.trans (B2.out.mono B1.out.size)⟩
end Go.Proofs.Ytcangpdcdodkdaa
