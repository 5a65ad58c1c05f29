/-
  Contracts of the functions that the statements of package xts go through: which bytes are a sector; a new cipher. Condition: the numbers are bytes.
-/
import Derived.Test.YtpkeofioobmmoaaGreatDoorAeS
import Derived.Test.YtpkeofioobmmoaaGreatDoorAeXtsM
namespace Go.Proofs.YtpkeofioobmmoaaGreatDoor.ae
open Go.RowKit
/-- A cipher of two keys lies in block g. -/
def XIat (W : World) (g : Nat) (F1 F2 : List Nat) : Prop := ∃ g1 g2, W.heap[g]? = some (.cells #[.pointer (some ⟨g1, 0, none⟩), .pointer (some ⟨g2, 0, none⟩)] 79 (0, 0)) ∧ CIat W g1 F1 ∧ CIat W g2 F2
set_option maxRecDepth 100000 in
theorem XIat.below {W W' : World} {g : Nat} {F1 F2 : List Nat} (h : XIat W g F1 F2) (hb : Below W.heap.size W W') : XIat W' g F1 F2 := by
  obtain ⟨g1, g2, h0, h1, h2⟩ := h
  exact ⟨g1, g2, (hb.block _ (blk_lt h0)).trans h0, h1.below hb, h2.below hb⟩
end Go.Proofs.YtpkeofioobmmoaaGreatDoor.ae
