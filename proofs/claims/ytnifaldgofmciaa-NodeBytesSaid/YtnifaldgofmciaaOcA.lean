/-
  Contracts of the functions that the statements of package octet go through: how wide a number is. No condition.
-/
import Derived.Test.YtnifaldgofmciaaProg
import Derived.WalkKit
import Derived.Lib.Hide
import Derived.KernelRfl
namespace Go.Proofs.Ytnifaldgofmciaa.oc
open Go.RowKit

set_option maxRecDepth 100000 in
theorem len8 (w : World) : Calls Try.prog 60 #[.int .u64 255] w fun e w' => e = .returned (.int .i64 8) ∧ w = w' := by
  go_enter Try.func60, Try.ntmps60
  go_wp2_with fail
  go_ret
  exact ⟨by kernel_rfl, rfl⟩
set_option maxRecDepth 100000 in
theorem len32 (w : World) : Calls Try.prog 60 #[.int .u64 4294967295] w fun e w' => e = .returned (.int .i64 32) ∧ w = w' := by
  go_enter Try.func60, Try.ntmps60
  go_wp2_with fail
  go_ret
  exact ⟨by kernel_rfl, rfl⟩
set_option maxRecDepth 100000 in
theorem len64 (w : World) : Calls Try.prog 60 #[.int .u64 18446744073709551615] w fun e w' => e = .returned (.int .i64 64) ∧ w = w' := by
  go_enter Try.func60, Try.ntmps60
  go_wp2_with fail
  go_ret
  exact ⟨by kernel_rfl, rfl⟩
theorem width8 (w : World) : Calls Try.prog 66 #[] w fun e w' => e = .returned (.int .i64 1) ∧ w = w' := by
  have hs : IntKind.u8.signed = false := rfl
  have h1 : IntKind.u64.wrap (bits BinOp.xor IntKind.u8 IntKind.u8.max 0) = 255 := by kernel_rfl
  have h2 : bits BinOp.xor IntKind.u8 IntKind.u8.max 0 = 255 := by kernel_rfl
  go_enter Try.func66, Try.ntmps66
  go_wp2_with (go_at_call 60; refine (len8 _).mono ?_; rintro e w' ⟨rfl, rfl⟩)
  go_ret
  exact ⟨rfl, rfl⟩
theorem width32 (w : World) : Calls Try.prog 47 #[] w fun e w' => e = .returned (.int .i64 4) ∧ w = w' := by
  have hs : IntKind.u32.signed = false := rfl
  have h1 : IntKind.u64.wrap (bits BinOp.xor IntKind.u32 IntKind.u32.max 0) = 4294967295 := by kernel_rfl
  have h2 : bits BinOp.xor IntKind.u32 IntKind.u32.max 0 = 4294967295 := by kernel_rfl
  go_enter Try.func47, Try.ntmps47
  go_wp2_with (go_at_call 60; refine (len32 _).mono ?_; rintro e w' ⟨rfl, rfl⟩)
  go_ret
  exact ⟨rfl, rfl⟩
theorem width64 (w : World) : Calls Try.prog 46 #[] w fun e w' => e = .returned (.int .i64 8) ∧ w = w' := by
  have hs : IntKind.u64.signed = false := rfl
  have h1 : IntKind.u64.wrap (bits BinOp.xor IntKind.u64 IntKind.u64.max 0) = 18446744073709551615 := by kernel_rfl
  have h2 : bits BinOp.xor IntKind.u64 IntKind.u64.max 0 = 18446744073709551615 := by kernel_rfl
  go_enter Try.func46, Try.ntmps46
  go_wp2_with (go_at_call 60; refine (len64 _).mono ?_; rintro e w' ⟨rfl, rfl⟩)
  go_ret
  exact ⟨rfl, rfl⟩
end Go.Proofs.Ytnifaldgofmciaa.oc
