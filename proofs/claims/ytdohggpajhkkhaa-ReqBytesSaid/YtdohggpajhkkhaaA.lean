/-
  Contracts of the functions that the statements of package octet go through: how wide a number is. No condition.
-/
import Derived.Test.YtdohggpajhkkhaaProg
import Derived.WalkKit
import Derived.Lib.Hide
import Derived.KernelRfl
namespace Go.Proofs.Ytdohggpajhkkhaa
open Go.RowKit

set_option maxRecDepth 100000 in
theorem len8 (w : World) : Calls Try.prog 58 #[.int .u64 255] w fun e w' => e = .returned (.int .i64 8) ∧ w = w' := by
  go_enter Try.func58, Try.ntmps58
  go_wp2_with fail
  go_ret
  exact ⟨by kernel_rfl, rfl⟩
set_option maxRecDepth 100000 in
theorem len16 (w : World) : Calls Try.prog 58 #[.int .u64 65535] w fun e w' => e = .returned (.int .i64 16) ∧ w = w' := by
  go_enter Try.func58, Try.ntmps58
  go_wp2_with fail
  go_ret
  exact ⟨by kernel_rfl, rfl⟩
set_option maxRecDepth 100000 in
theorem len32 (w : World) : Calls Try.prog 58 #[.int .u64 4294967295] w fun e w' => e = .returned (.int .i64 32) ∧ w = w' := by
  go_enter Try.func58, Try.ntmps58
  go_wp2_with fail
  go_ret
  exact ⟨by kernel_rfl, rfl⟩
set_option maxRecDepth 100000 in
theorem len64 (w : World) : Calls Try.prog 58 #[.int .u64 18446744073709551615] w fun e w' => e = .returned (.int .i64 64) ∧ w = w' := by
  go_enter Try.func58, Try.ntmps58
  go_wp2_with fail
  go_ret
  exact ⟨by kernel_rfl, rfl⟩
theorem width8 (w : World) : Calls Try.prog 55 #[] w fun e w' => e = .returned (.int .i64 1) ∧ w = w' := by
  have hs : IntKind.u8.signed = false := rfl
  have h1 : IntKind.u64.wrap (bits BinOp.xor IntKind.u8 IntKind.u8.max 0) = 255 := by kernel_rfl
  have h2 : bits BinOp.xor IntKind.u8 IntKind.u8.max 0 = 255 := by kernel_rfl
  go_enter Try.func55, Try.ntmps55
  go_wp2_with (go_at_call 58; refine (len8 _).mono ?_; rintro e w' ⟨rfl, rfl⟩)
  go_ret
  exact ⟨rfl, rfl⟩
theorem width16 (w : World) : Calls Try.prog 52 #[] w fun e w' => e = .returned (.int .i64 2) ∧ w = w' := by
  have hs : IntKind.u16.signed = false := rfl
  have h1 : IntKind.u64.wrap (bits BinOp.xor IntKind.u16 IntKind.u16.max 0) = 65535 := by kernel_rfl
  have h2 : bits BinOp.xor IntKind.u16 IntKind.u16.max 0 = 65535 := by kernel_rfl
  go_enter Try.func52, Try.ntmps52
  go_wp2_with (go_at_call 58; refine (len16 _).mono ?_; rintro e w' ⟨rfl, rfl⟩)
  go_ret
  exact ⟨rfl, rfl⟩
theorem width64 (w : World) : Calls Try.prog 57 #[] w fun e w' => e = .returned (.int .i64 8) ∧ w = w' := by
  have hs : IntKind.u64.signed = false := rfl
  have h1 : IntKind.u64.wrap (bits BinOp.xor IntKind.u64 IntKind.u64.max 0) = 18446744073709551615 := by kernel_rfl
  have h2 : bits BinOp.xor IntKind.u64 IntKind.u64.max 0 = 18446744073709551615 := by kernel_rfl
  go_enter Try.func57, Try.ntmps57
  go_wp2_with (go_at_call 58; refine (len64 _).mono ?_; rintro e w' ⟨rfl, rfl⟩)
  go_ret
  exact ⟨rfl, rfl⟩
end Go.Proofs.Ytdohggpajhkkhaa
