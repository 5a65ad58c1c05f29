/-
  Contracts of the functions that the statements of package xts go through: sectors turned, and turned back. Condition: the numbers are bytes.
-/
import Derived.Test.YtpkeofioobmmoaaGreatDoorAeXtsB
import Derived.Laws.CopyRow
import Derived.Deep.DeepCutAuto
namespace Go.Proofs.YtpkeofioobmmoaaGreatDoor.ae
open Go.RowKit
/-- What lies in memory while a sector is turned: what comes, the mask, the block. -/
def LS (w : World) (g10 g11 g13 : Nat) (O M B : List Nat) (W : World) : Prop :=
  W.heap[g10]? = some (.cells (ncells O) 5 (0, 0)) ∧ W.heap[g11]? = some (.cells (ncells M) 77 (0, 0)) ∧ W.heap[g13]? = some (.cells (ncells B) 77 (0, 0)) ∧ Below w.heap.size w W
set_option maxRecDepth 100000 in
theorem LS.below {w W W' : World} {g10 g11 g13 : Nat} {O M B : List Nat} (h : LS w g10 g11 g13 O M B W) (hb : Below W.heap.size W W') : LS w g10 g11 g13 O M B W' :=
  ⟨(hb.block _ (blk_lt h.1)).trans h.1, (hb.block _ (blk_lt h.2.1)).trans h.2.1, (hb.block _ (blk_lt h.2.2.1)).trans h.2.2.1, h.2.2.2.trans (hb.mono h.2.2.2.size)⟩
set_option maxRecDepth 100000 in
theorem LS.drew {w W : World} {g10 g11 g13 : Nat} {O M B : List Nat} (h : LS w g10 g11 g13 O M B W) : LS w g10 g11 g13 O M B W.drew := ⟨h.1, h.2.1, h.2.2.1, h.2.2.2.drew⟩
end Go.Proofs.YtpkeofioobmmoaaGreatDoor.ae
