/-
  Contracts of the functions that the statements of package sha go through: a number of 32 digits turned. Condition: the number fits its kind.
-/
import Derived.Test.YtjdamlmoegippaaDoorHlH
import Derived.OpenShut
namespace Go.Proofs.YtjdamlmoegippaaDoor.hl
open Go.RowKit

/-- Turned by n (0 < n < 32): as the program reckons it. -/
def rot (n : Nat) (x : Int) : Int := bits .or .u32 (x * 2 ^ (32 - n) % 4294967296) (x / 2 ^ n)
set_option maxRecDepth 10000 in
theorem rl2 (x : Int) (w : World) : Calls Tryd.prog 75 #[.int .u32 x, .int .i64 (-2)] w fun e w' => e = .returned (.int .u32 (rot 2 x)) ∧ w = w' := by
  have hw : IntKind.u64.wrap (-2) = 18446744073709551614 := by kernel_rfl
  have hb : bits .and .u64 18446744073709551614 31 = 30 := by kernel_rfl
  have HE : Hid (rot 2 x = bits BinOp.or .u32 (x * 1073741824 % 4294967296) (x / 4)) := rfl
  go_enter Tryd.func75, Tryd.ntmps75
  go_wp2
  go_ret
  exact ⟨by rw [HE.out]; rfl, rfl⟩
theorem turned2 (x : Int) (w : World) : Calls Tryd.prog 71 #[.int .u32 x, .int .i64 2] w fun e w' => e = .returned (.int .u32 (rot 2 x)) ∧ w = w' := by
  go_enter Tryd.func71, Tryd.ntmps71
  go_wp2_with (go_at_call 75; refine (rl2 x _).mono ?_; rintro e w' ⟨rfl, rfl⟩)
  go_ret
  exact ⟨rfl, rfl⟩
set_option maxRecDepth 10000 in
theorem rl6 (x : Int) (w : World) : Calls Tryd.prog 75 #[.int .u32 x, .int .i64 (-6)] w fun e w' => e = .returned (.int .u32 (rot 6 x)) ∧ w = w' := by
  have hw : IntKind.u64.wrap (-6) = 18446744073709551610 := by kernel_rfl
  have hb : bits .and .u64 18446744073709551610 31 = 26 := by kernel_rfl
  have HE : Hid (rot 6 x = bits BinOp.or .u32 (x * 67108864 % 4294967296) (x / 64)) := rfl
  go_enter Tryd.func75, Tryd.ntmps75
  go_wp2
  go_ret
  exact ⟨by rw [HE.out]; rfl, rfl⟩
theorem turned6 (x : Int) (w : World) : Calls Tryd.prog 71 #[.int .u32 x, .int .i64 6] w fun e w' => e = .returned (.int .u32 (rot 6 x)) ∧ w = w' := by
  go_enter Tryd.func71, Tryd.ntmps71
  go_wp2_with (go_at_call 75; refine (rl6 x _).mono ?_; rintro e w' ⟨rfl, rfl⟩)
  go_ret
  exact ⟨rfl, rfl⟩
set_option maxRecDepth 10000 in
theorem rl7 (x : Int) (w : World) : Calls Tryd.prog 75 #[.int .u32 x, .int .i64 (-7)] w fun e w' => e = .returned (.int .u32 (rot 7 x)) ∧ w = w' := by
  have hw : IntKind.u64.wrap (-7) = 18446744073709551609 := by kernel_rfl
  have hb : bits .and .u64 18446744073709551609 31 = 25 := by kernel_rfl
  have HE : Hid (rot 7 x = bits BinOp.or .u32 (x * 33554432 % 4294967296) (x / 128)) := rfl
  go_enter Tryd.func75, Tryd.ntmps75
  go_wp2
  go_ret
  exact ⟨by rw [HE.out]; rfl, rfl⟩
theorem turned7 (x : Int) (w : World) : Calls Tryd.prog 71 #[.int .u32 x, .int .i64 7] w fun e w' => e = .returned (.int .u32 (rot 7 x)) ∧ w = w' := by
  go_enter Tryd.func71, Tryd.ntmps71
  go_wp2_with (go_at_call 75; refine (rl7 x _).mono ?_; rintro e w' ⟨rfl, rfl⟩)
  go_ret
  exact ⟨rfl, rfl⟩
set_option maxRecDepth 10000 in
theorem rl11 (x : Int) (w : World) : Calls Tryd.prog 75 #[.int .u32 x, .int .i64 (-11)] w fun e w' => e = .returned (.int .u32 (rot 11 x)) ∧ w = w' := by
  have hw : IntKind.u64.wrap (-11) = 18446744073709551605 := by kernel_rfl
  have hb : bits .and .u64 18446744073709551605 31 = 21 := by kernel_rfl
  have HE : Hid (rot 11 x = bits BinOp.or .u32 (x * 2097152 % 4294967296) (x / 2048)) := rfl
  go_enter Tryd.func75, Tryd.ntmps75
  go_wp2
  go_ret
  exact ⟨by rw [HE.out]; rfl, rfl⟩
theorem turned11 (x : Int) (w : World) : Calls Tryd.prog 71 #[.int .u32 x, .int .i64 11] w fun e w' => e = .returned (.int .u32 (rot 11 x)) ∧ w = w' := by
  go_enter Tryd.func71, Tryd.ntmps71
  go_wp2_with (go_at_call 75; refine (rl11 x _).mono ?_; rintro e w' ⟨rfl, rfl⟩)
  go_ret
  exact ⟨rfl, rfl⟩
set_option maxRecDepth 10000 in
theorem rl13 (x : Int) (w : World) : Calls Tryd.prog 75 #[.int .u32 x, .int .i64 (-13)] w fun e w' => e = .returned (.int .u32 (rot 13 x)) ∧ w = w' := by
  have hw : IntKind.u64.wrap (-13) = 18446744073709551603 := by kernel_rfl
  have hb : bits .and .u64 18446744073709551603 31 = 19 := by kernel_rfl
  have HE : Hid (rot 13 x = bits BinOp.or .u32 (x * 524288 % 4294967296) (x / 8192)) := rfl
  go_enter Tryd.func75, Tryd.ntmps75
  go_wp2
  go_ret
  exact ⟨by rw [HE.out]; rfl, rfl⟩
theorem turned13 (x : Int) (w : World) : Calls Tryd.prog 71 #[.int .u32 x, .int .i64 13] w fun e w' => e = .returned (.int .u32 (rot 13 x)) ∧ w = w' := by
  go_enter Tryd.func71, Tryd.ntmps71
  go_wp2_with (go_at_call 75; refine (rl13 x _).mono ?_; rintro e w' ⟨rfl, rfl⟩)
  go_ret
  exact ⟨rfl, rfl⟩
set_option maxRecDepth 10000 in
theorem rl17 (x : Int) (w : World) : Calls Tryd.prog 75 #[.int .u32 x, .int .i64 (-17)] w fun e w' => e = .returned (.int .u32 (rot 17 x)) ∧ w = w' := by
  have hw : IntKind.u64.wrap (-17) = 18446744073709551599 := by kernel_rfl
  have hb : bits .and .u64 18446744073709551599 31 = 15 := by kernel_rfl
  have HE : Hid (rot 17 x = bits BinOp.or .u32 (x * 32768 % 4294967296) (x / 131072)) := rfl
  go_enter Tryd.func75, Tryd.ntmps75
  go_wp2
  go_ret
  exact ⟨by rw [HE.out]; rfl, rfl⟩
theorem turned17 (x : Int) (w : World) : Calls Tryd.prog 71 #[.int .u32 x, .int .i64 17] w fun e w' => e = .returned (.int .u32 (rot 17 x)) ∧ w = w' := by
  go_enter Tryd.func71, Tryd.ntmps71
  go_wp2_with (go_at_call 75; refine (rl17 x _).mono ?_; rintro e w' ⟨rfl, rfl⟩)
  go_ret
  exact ⟨rfl, rfl⟩
set_option maxRecDepth 10000 in
theorem rl18 (x : Int) (w : World) : Calls Tryd.prog 75 #[.int .u32 x, .int .i64 (-18)] w fun e w' => e = .returned (.int .u32 (rot 18 x)) ∧ w = w' := by
  have hw : IntKind.u64.wrap (-18) = 18446744073709551598 := by kernel_rfl
  have hb : bits .and .u64 18446744073709551598 31 = 14 := by kernel_rfl
  have HE : Hid (rot 18 x = bits BinOp.or .u32 (x * 16384 % 4294967296) (x / 262144)) := rfl
  go_enter Tryd.func75, Tryd.ntmps75
  go_wp2
  go_ret
  exact ⟨by rw [HE.out]; rfl, rfl⟩
theorem turned18 (x : Int) (w : World) : Calls Tryd.prog 71 #[.int .u32 x, .int .i64 18] w fun e w' => e = .returned (.int .u32 (rot 18 x)) ∧ w = w' := by
  go_enter Tryd.func71, Tryd.ntmps71
  go_wp2_with (go_at_call 75; refine (rl18 x _).mono ?_; rintro e w' ⟨rfl, rfl⟩)
  go_ret
  exact ⟨rfl, rfl⟩
set_option maxRecDepth 10000 in
theorem rl19 (x : Int) (w : World) : Calls Tryd.prog 75 #[.int .u32 x, .int .i64 (-19)] w fun e w' => e = .returned (.int .u32 (rot 19 x)) ∧ w = w' := by
  have hw : IntKind.u64.wrap (-19) = 18446744073709551597 := by kernel_rfl
  have hb : bits .and .u64 18446744073709551597 31 = 13 := by kernel_rfl
  have HE : Hid (rot 19 x = bits BinOp.or .u32 (x * 8192 % 4294967296) (x / 524288)) := rfl
  go_enter Tryd.func75, Tryd.ntmps75
  go_wp2
  go_ret
  exact ⟨by rw [HE.out]; rfl, rfl⟩
theorem turned19 (x : Int) (w : World) : Calls Tryd.prog 71 #[.int .u32 x, .int .i64 19] w fun e w' => e = .returned (.int .u32 (rot 19 x)) ∧ w = w' := by
  go_enter Tryd.func71, Tryd.ntmps71
  go_wp2_with (go_at_call 75; refine (rl19 x _).mono ?_; rintro e w' ⟨rfl, rfl⟩)
  go_ret
  exact ⟨rfl, rfl⟩
set_option maxRecDepth 10000 in
theorem rl22 (x : Int) (w : World) : Calls Tryd.prog 75 #[.int .u32 x, .int .i64 (-22)] w fun e w' => e = .returned (.int .u32 (rot 22 x)) ∧ w = w' := by
  have hw : IntKind.u64.wrap (-22) = 18446744073709551594 := by kernel_rfl
  have hb : bits .and .u64 18446744073709551594 31 = 10 := by kernel_rfl
  have HE : Hid (rot 22 x = bits BinOp.or .u32 (x * 1024 % 4294967296) (x / 4194304)) := rfl
  go_enter Tryd.func75, Tryd.ntmps75
  go_wp2
  go_ret
  exact ⟨by rw [HE.out]; rfl, rfl⟩
theorem turned22 (x : Int) (w : World) : Calls Tryd.prog 71 #[.int .u32 x, .int .i64 22] w fun e w' => e = .returned (.int .u32 (rot 22 x)) ∧ w = w' := by
  go_enter Tryd.func71, Tryd.ntmps71
  go_wp2_with (go_at_call 75; refine (rl22 x _).mono ?_; rintro e w' ⟨rfl, rfl⟩)
  go_ret
  exact ⟨rfl, rfl⟩
set_option maxRecDepth 10000 in
theorem rl25 (x : Int) (w : World) : Calls Tryd.prog 75 #[.int .u32 x, .int .i64 (-25)] w fun e w' => e = .returned (.int .u32 (rot 25 x)) ∧ w = w' := by
  have hw : IntKind.u64.wrap (-25) = 18446744073709551591 := by kernel_rfl
  have hb : bits .and .u64 18446744073709551591 31 = 7 := by kernel_rfl
  have HE : Hid (rot 25 x = bits BinOp.or .u32 (x * 128 % 4294967296) (x / 33554432)) := rfl
  go_enter Tryd.func75, Tryd.ntmps75
  go_wp2
  go_ret
  exact ⟨by rw [HE.out]; rfl, rfl⟩
theorem turned25 (x : Int) (w : World) : Calls Tryd.prog 71 #[.int .u32 x, .int .i64 25] w fun e w' => e = .returned (.int .u32 (rot 25 x)) ∧ w = w' := by
  go_enter Tryd.func71, Tryd.ntmps71
  go_wp2_with (go_at_call 75; refine (rl25 x _).mono ?_; rintro e w' ⟨rfl, rfl⟩)
  go_ret
  exact ⟨rfl, rfl⟩
theorem bits_u32 (op : BinOp) (x y : Int) : 0 ≤ bits op .u32 x y ∧ bits op .u32 x y ≤ 4294967295 := bounds_u32 (wf_bits op .u32 x y)
end Go.Proofs.YtjdamlmoegippaaDoor.hl
