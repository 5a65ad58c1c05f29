/-
  Contracts of the functions that the statements of package aes go through: what must come of fixed calls. No condition.
-/
import Derived.Test.YtpkeofioobmmoaaGreatDoorAeAesQ
namespace Go.Proofs.YtpkeofioobmmoaaGreatDoor.ae
open Go.RowKit
set_option maxRecDepth 100000 in
/-- In a region that draws its order a row in the middle of a block is loaded. -/
theorem yieldsIf_load_at {P : Program} {ops : Array Oper} {S : World → Prop} {op : Oper} {a : Act} (hw : Region.wanted op (yielded ops a.tmps) = true) (ty : TypeId) (x : Operand) (ho : op.op = .load ty x)
    (b o : Nat) (hx : a.eval x = .pointer (some ⟨b, o, none⟩)) (cs : Array Value) (d : TypeDesc) (hS : ∀ w, S w → w.rangeAt b o cs.toList)
    (hu : P.underlying ty = some d) (hd : d.isRow = true) (hi : (P.info? ty).map (·.size) = some cs.size) : YieldsIf P ops S op (.agg cs) a :=
  yieldsIf_load_mid hw ty x ho b o hx cs.toList d hS hu hd (by rw [Array.length_toList]; exact hi)
set_option maxRecDepth 100000 in
theorem range_row {W : World} {g : Nat} {c : Array Value} {t : TypeId} {fr : Nat × Nat} (h : W.heap[g]? = some (.cells c t fr)) : W.rangeAt g 0 c.toList := fun j v hv => by
  rw [Nat.zero_add, cell_of_row _ _ _ _ _ _ h, ← hv]; simp
set_option maxRecDepth 100000 in
theorem zero23 : ∀ w, (zeroValue 23).run Tryz.prog w = .ok (.agg (ncells (zeros 32))) w := fun _ => by kernel_rfl
set_option maxRecDepth 100000 in
theorem z23 {b : List Nat} (h : b.length = 32) : (ncells (zeros 32)).size = (ncells b).size := by rw [nsize, nsize, zeros_len, h]
end Go.Proofs.YtpkeofioobmmoaaGreatDoor.ae
