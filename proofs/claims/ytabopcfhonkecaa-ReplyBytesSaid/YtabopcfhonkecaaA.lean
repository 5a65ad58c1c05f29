/-
  Contracts of the functions that the statements of package octet go through: how wide a number is. No condition.
-/
import Derived.Test.YtabopcfhonkecaaProg
import Derived.WalkKit
import Derived.Lib.Hide
import Derived.KernelRfl
namespace Go.Proofs.Ytabopcfhonkecaa
open Go.RowKit

set_option maxRecDepth 100000 in
theorem len8 (w : World) : Calls Try.prog 39 #[.int .u64 255] w fun e w' => e = .returned (.int .i64 8) ∧ w = w' := by
  go_enter Try.func39, Try.ntmps39
  go_wp2_with fail
  go_ret
  exact ⟨by kernel_rfl, rfl⟩
set_option maxRecDepth 100000 in
theorem len16 (w : World) : Calls Try.prog 39 #[.int .u64 65535] w fun e w' => e = .returned (.int .i64 16) ∧ w = w' := by
  go_enter Try.func39, Try.ntmps39
  go_wp2_with fail
  go_ret
  exact ⟨by kernel_rfl, rfl⟩
set_option maxRecDepth 100000 in
theorem len32 (w : World) : Calls Try.prog 39 #[.int .u64 4294967295] w fun e w' => e = .returned (.int .i64 32) ∧ w = w' := by
  go_enter Try.func39, Try.ntmps39
  go_wp2_with fail
  go_ret
  exact ⟨by kernel_rfl, rfl⟩
set_option maxRecDepth 100000 in
theorem len64 (w : World) : Calls Try.prog 39 #[.int .u64 18446744073709551615] w fun e w' => e = .returned (.int .i64 64) ∧ w = w' := by
  go_enter Try.func39, Try.ntmps39
  go_wp2_with fail
  go_ret
  exact ⟨by kernel_rfl, rfl⟩
theorem width16 (w : World) : Calls Try.prog 33 #[] w fun e w' => e = .returned (.int .i64 2) ∧ w = w' := by
  have hs : IntKind.u16.signed = false := rfl
  have h1 : IntKind.u64.wrap (bits BinOp.xor IntKind.u16 IntKind.u16.max 0) = 65535 := by kernel_rfl
  have h2 : bits BinOp.xor IntKind.u16 IntKind.u16.max 0 = 65535 := by kernel_rfl
  go_enter Try.func33, Try.ntmps33
  go_wp2_with (go_at_call 39; refine (len16 _).mono ?_; rintro e w' ⟨rfl, rfl⟩)
  go_ret
  exact ⟨rfl, rfl⟩
theorem width32 (w : World) : Calls Try.prog 34 #[] w fun e w' => e = .returned (.int .i64 4) ∧ w = w' := by
  have hs : IntKind.u32.signed = false := rfl
  have h1 : IntKind.u64.wrap (bits BinOp.xor IntKind.u32 IntKind.u32.max 0) = 4294967295 := by kernel_rfl
  have h2 : bits BinOp.xor IntKind.u32 IntKind.u32.max 0 = 4294967295 := by kernel_rfl
  go_enter Try.func34, Try.ntmps34
  go_wp2_with (go_at_call 39; refine (len32 _).mono ?_; rintro e w' ⟨rfl, rfl⟩)
  go_ret
  exact ⟨rfl, rfl⟩
end Go.Proofs.Ytabopcfhonkecaa
