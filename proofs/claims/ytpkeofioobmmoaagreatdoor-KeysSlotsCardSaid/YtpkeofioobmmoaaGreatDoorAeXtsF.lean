/-
  Plain lemmas: what the fixed keys, stamp and sector of the statements of package xts come to. No condition.
-/
import Derived.Test.YtpkeofioobmmoaaGreatDoorAeXtsC
namespace Go.Proofs.YtpkeofioobmmoaaGreatDoor.ae
open Go.RowKit
def xk1 : List Nat := 1 :: zeros 31
def xk2 : List Nat := 2 :: zeros 31
set_option maxRecDepth 100000 in
theorem xk1_bts : Bts 32 xk1 := ⟨by decide, by decide⟩
set_option maxRecDepth 100000 in
theorem xk2_bts : Bts 32 xk2 := ⟨by decide, by decide⟩
def xj (m : List Nat) : List Nat := jn (turn (rkey xk1) (jn (zeros 16) m)) m
set_option maxRecDepth 100000 in
theorem build23a : ∀ w, (Instr.build 23 #[(0, .int .u8 1)]).run Tryz.prog w = .ok (.agg (ncells xk1)) w := fun _ => by kernel_rfl
set_option maxRecDepth 100000 in
theorem build23b : ∀ w, (Instr.build 23 #[(0, .int .u8 2)]).run Tryz.prog w = .ok (.agg (ncells xk2)) w := fun _ => by kernel_rfl
end Go.Proofs.YtpkeofioobmmoaaGreatDoor.ae
