/-
  Contracts of the functions that the statements of package octet go through: what must come of fixed calls. No condition.
-/
import Derived.Test.YtabopcfhonkecaaE
namespace Go.Proofs.Ytabopcfhonkecaa
open Go.RowKit
theorem below_grown {w0 w w' : World} {row : Option Nat} (h : Below w0.heap.size w0 w) (hg : w.grownBy w' row) (hr : ∀ k, row = some k → w0.heap.size ≤ k) : Below w0.heap.size w0 w' := h.grown hg h.size hr

theorem sees_row (w : World) (g : Nat) (xs : List Int) (hb : Byt xs) (hm : xs.length ≤ maxLen) (h : w.heap[g]? = some (.cells (bcells xs) 5 (0, 0))) (n : Nat) (hn : n = xs.length) : Sees w (.slice (some ⟨g, 0, none⟩) n n) xs := by
  subst hn
  refine ⟨hb, ?_⟩
  by_cases h0 : xs = []
  · subst h0; exact .inr (.inl ⟨_, _, rfl, rfl, by simp [maxLen]⟩)
  · refine .inr (.inr ⟨_, _, _, rfl, h0, Nat.le_refl _, hm, fun i hi => ?_⟩)
    rw [cell_of_row _ _ _ _ _ _ h]
    simp [bcells, nth, hi, List.getD]
theorem sees_new (w : World) (cs : Array Value) (xs : List Int) (hc : cs = bcells xs) (hb : Byt xs) (hm : xs.length ≤ maxLen) (g : Nat) (hg : w.heap.size = g) (n : Nat) (hn : n = xs.length) :
    Sees (w.alloc (.cells cs 5)) (.slice (some ⟨g, 0, none⟩) n n) xs := by
  subst hc hg
  exact sees_row _ _ xs hb hm (heap_alloc_new w _) n hn
theorem byt_of (xs : List Int) (h : xs.all (fun x => decide (0 ≤ x) && decide (x ≤ 255)) = true) : Byt xs := fun x hx => by
  have := List.all_eq_true.1 h x hx
  simpa using this
/-- A call's new row of bytes. -/
def NewP (w : World) (n : Nat) (xs : List Int) (e : Ending) (w' : World) : Prop :=
  ∃ g, e = .returned (.slice (some ⟨g, 0, none⟩) n n) ∧ Sees w' (.slice (some ⟨g, 0, none⟩) n n) xs ∧ Below w.heap.size w w' ∧ w.heap.size ≤ g
theorem put16n (v : Int) (h0 : 0 ≤ v) (h1 : v ≤ 65535) (w : World) (xs : List Int) (hx : bcells xs = #[.int .u8 (v / 256), .int .u8 (v % 256)]) (hb : Byt xs) (hl : xs.length = 2) : Calls Try.prog 21 #[.int .u16 v] w (NewP w 2 xs) :=
  (put16 v h0 h1 w).mono fun e w' ⟨he, hw⟩ => by
    subst he hw
    exact ⟨_, rfl, sees_new _ _ xs hx.symm hb (by rw [hl]; decide) _ rfl _ hl.symm, (Below.refl _ _).alloc (Nat.le_refl _) _, Nat.le_refl _⟩
def ReadP (w : World) (xs : List Int) (e : Ending) (w' : World) : Prop :=
  ∃ g, e = .returned (.pointer (some ⟨g, 0, none⟩)) ∧ RD w' g xs false ∧ Below w.heap.size w w' ∧ w.heap.size ≤ g
theorem readn (v : Value) (xs : List Int) (hl : xs.length ≤ 140737488355328) (w : World) (h : Sees w v xs) : Calls Try.prog 24 #[v] w (ReadP w xs) :=
  (read_rd v xs hl w h).mono fun e w' ⟨he, hw⟩ => by
    subst he hw
    exact ⟨_, rfl, rd_made w xs h.1 (by unfold maxLen; omega), ((Below.refl _ _).alloc (Nat.le_refl _) _).alloc (by simp) _, by omega⟩
end Go.Proofs.Ytabopcfhonkecaa
