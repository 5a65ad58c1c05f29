/-
  Contracts of the functions that the statements of package octet go through: what must come of fixed calls. No condition.
-/
import Derived.Test.YtnifaldgofmciaaOcE
namespace Go.Proofs.Ytnifaldgofmciaa.oc
open Go.RowKit
theorem sees_row (w : World) (g : Nat) (xs : List Int) (hb : Byt xs) (hm : xs.length ≤ maxLen) (h : w.heap[g]? = some (.cells (bcells xs) 5 (0, 0))) (n : Nat) (hn : n = xs.length) : Sees w (.slice (some ⟨g, 0, none⟩) n n) xs := by
  subst hn
  refine ⟨hb, ?_⟩
  by_cases h0 : xs = []
  · subst h0; exact .inr (.inl ⟨_, _, rfl, rfl, by simp [maxLen]⟩)
  · refine .inr (.inr ⟨_, _, _, rfl, h0, Nat.le_refl _, hm, fun i hi => ?_⟩)
    rw [cell_of_row _ _ _ _ _ _ h]
    simp [bcells, nth, hi, List.getD]
theorem sees_new (w : World) (cs : Array Value) (xs : List Int) (hc : cs = bcells xs) (hb : Byt xs) (hm : xs.length ≤ maxLen) (g : Nat) (hg : w.heap.size = g) (n : Nat) (hn : n = xs.length) :
    Sees (w.alloc (.cells cs 5)) (.slice (some ⟨g, 0, none⟩) n n) xs := by
  subst hc hg
  exact sees_row _ _ xs hb hm (heap_alloc_new w _) n hn
/-- A call's new row of bytes. -/
def NewP (w : World) (n : Nat) (xs : List Int) (e : Ending) (w' : World) : Prop :=
  ∃ g, e = .returned (.slice (some ⟨g, 0, none⟩) n n) ∧ Sees w' (.slice (some ⟨g, 0, none⟩) n n) xs ∧ Below w.heap.size w w' ∧ w.heap.size ≤ g
def ReadP (w : World) (xs : List Int) (e : Ending) (w' : World) : Prop :=
  ∃ g, e = .returned (.pointer (some ⟨g, 0, none⟩)) ∧ RD w' g xs false ∧ Below w.heap.size w w' ∧ w.heap.size ≤ g
end Go.Proofs.Ytnifaldgofmciaa.oc
