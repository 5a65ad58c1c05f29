/-
  Contracts of package bits: Clone; maps.Clone. Condition: the row lies in memory as a size, a map and words.
-/
import Derived.Test.YtklhnibmpdaioaaG
import Derived.Shelf.SlMaps.Clone
import Derived.Laws.CopyRow
import Derived.Deep.RegionHeld3
namespace Go.Proofs.Ytklhnibmpdaioaa
open Go.RowKit
set_option maxRecDepth 100000 in
theorem mclone {w : World} {b clock : Nat} {es : Array MapEntry} (hb : w.heap[b]? = some (.map es clock)) : Calls Try.prog 72 #[.map (some b)] w fun e w' => e = .returned (.map (some w.heap.size)) ∧ w' = w.alloc (.map es clock) := by
  have hq := fun w => run_eql_map_nil_sl (P := Try.prog) w 79 _ _ (some b) Try.underlying79
  go_enter Try.func72, Try.ntmps72
  go_wp2
  rw [run_callFunc_extern Try.func80 (by kernel_rfl) (by kernel_rfl) (by kernel_rfl) (e := Extern.MapsClone.clone) (by kernel_rfl), run_maps_clone_sl w 79 hb]
  simp only [Result.andThen]
  rw [Oper.upon_value]
  go_wp2
  rw [run_typeAssert_map_sl _ 79 20 _ _ _ Try.underlying79]
  simp only [Result.andThen]
  rw [Oper.upon_value]
  go_wp2
  go_ret
  exact ⟨rfl, rfl⟩
theorem info107s : (Try.prog.info? 107).map (·.size) = some 1 := by kernel_rfl
theorem alloc_setRow (w : World) (A B : Array Value) (t : TypeId) : (w.alloc (.cells A t)).setRow w.heap.size B = w.alloc (.cells B t) := by
  cases w with
  | mk heap tape drawn os output =>
    simp only [World.setRow, World.alloc]
    congr 1
    apply Array.ext_getElem?
    intro i
    rw [Array.getElem?_modify]
    by_cases h : i = heap.size
    · subst h; simp
    · simp [Array.getElem?_push, h, Ne.symm h]
/-- The words are copied into a new block. -/
theorem copy_words {w : World} {wb n : Nat} {cs : Array Value} (hg : w.heap[wb]? = some (.cells cs 107 (0, 0))) (hs : cs.size = n) (h1 : ∀ u ∈ cs.toList, u.oneCell' = true) (Z : Array Value) (hZ : Z.size = n) (ty : TypeId) :
    (Builtin.copy_ #[80, 80] ty #[.slice (some ⟨w.heap.size, 0, none⟩) n n, .slice (some ⟨wb, 0, none⟩) n n]).run Try.prog (w.alloc (.cells Z 107)) = .ok (.int .i64 n) (w.alloc (.cells cs 107)) := by
  have hb : (w.alloc (.cells Z 107)).heap[wb]? = some (.cells cs 107 (0, 0)) := by rw [Below.heap_alloc _ _ _ (Array.getElem?_eq_some_iff.1 hg).1]; exact hg
  rw [run_copy_row Try.prog (w.alloc (.cells Z 107)) 80 80 ty 107 w.heap.size 0 n n ⟨wb, 0, none⟩ n n Z 107 cs.toList Try.underlying80 info107s (heap_alloc_new w _) (by simp [hs]) (fun j u hj => by
    rw [addr_add, cell_of_row _ _ _ _ _ _ hb, Nat.zero_add]
    simpa using hj) (by simp [hs, hZ]) h1, alloc_setRow]
  simp [hs, goInt]
  have : Z.toList.drop n = [] := List.drop_eq_nil_of_le (by simp [hZ])
  rw [this]
  simp
/-- A copy of a row. -/
def CloneP (w : World) (N : Nat) (f : Nat → Nat) (e : Ending) (w' : World) : Prop :=
  ∃ g mb wb, e = .returned (.pointer (some ⟨g, 0, none⟩)) ∧ BR w' g N mb wb f ∧ w.heap.size ≤ g ∧ w.heap.size ≤ mb ∧ w.heap.size ≤ wb ∧ Below w.heap.size w w'
theorem MapV.copy {P : Program} {k : TypeId} {w w' : World} {b b' s : Nat} {f : Lit → Option Value} (h : MapV P k w b s f) (hb : w'.heap[b']? = w.heap[b]?) : MapV P k w' b' s f := by
  obtain ⟨D, ⟨es, clock, h1, r⟩, h2⟩ := h
  exact ⟨D, ⟨es, clock, hb.trans h1, r⟩, h2⟩
theorem three_allocs (w : World) (a b c : Obj) : (((w.alloc a).alloc b).alloc c).heap[w.heap.size]? = some a ∧ (((w.alloc a).alloc b).alloc c).heap[w.heap.size + 1]? = some b ∧ (((w.alloc a).alloc b).alloc c).heap[w.heap.size + 2]? = some c := by
  have h3 := heap_alloc_new ((w.alloc a).alloc b) c
  have h2 := heap_alloc_new (w.alloc a) b
  have h1 := heap_alloc_new w a
  refine ⟨?_, ?_, by simpa using h3⟩
  · rw [Below.heap_alloc _ _ _ (by simp; omega), Below.heap_alloc _ _ _ (by simp)]; exact h1
  · rw [Below.heap_alloc _ _ _ (by simp)]; simpa using h2
theorem cloneB_rows {w : World} {g N mb wb : Nat} {f : Nat → Nat} (h : BR w g N mb wb f) {cs : Array Value} {es : Array MapEntry} {ck : Nat} (e1 : w.heap[wb]? = some (.cells cs 107 (0, 0))) (e2 : w.heap[mb]? = some (.map es ck)) {nw : Nat} (hnw : (N + 63) / 64 = nw) :
    BR (((w.alloc (.cells cs 107)).alloc (.map es ck)).alloc (.cells #[.int .i64 N, .map (some (w.heap.size + 1)), .slice (some ⟨w.heap.size, 0, none⟩) nw nw] 82)) (w.heap.size + 2) N (w.heap.size + 1) w.heap.size f := by
  obtain ⟨t1, t2, t3⟩ := three_allocs w (.cells cs 107) (.map es ck) (.cells #[.int .i64 N, .map (some (w.heap.size + 1)), .slice (some ⟨w.heap.size, 0, none⟩) nw nw] 82)
  refine ⟨h.n1, h.n2, by rw [hnw]; exact t3, h.map.copy (t2.trans e2.symm), ?_, h.top, h.fb⟩
  obtain ⟨cs', wd, h1, h2⟩ := h.wds
  exact ⟨cs', wd, (t1.trans e1.symm).trans h1, h2⟩
set_option maxRecDepth 100000 in
set_option maxHeartbeats 1000000 in
theorem cloneB {w : World} {g N mb wb : Nat} {f : Nat → Nat} (h : BR w g N mb wb f) : Calls Try.prog 48 #[.pointer (some ⟨g, 0, none⟩)] w (CloneP w N f) := by
  have H := Lib.hid h
  have n1 := h.n1
  have n2 := h.n2
  have c0 := h.c0
  have c1 := h.c1
  have c2 := h.c2
  obtain ⟨cs, wd, e1, e2, e3⟩ := h.wds
  have hone : ∀ u ∈ cs.toList, u.oneCell' = true := fun u hu => by
    obtain ⟨j, hj, rfl⟩ := List.getElem_of_mem hu
    simp at hj
    have := (e3 j (by omega)).1
    rw [Array.getElem?_eq_getElem hj] at this
    simp at this
    simp [this, Value.oneCell']
  obtain ⟨es, ck, hmap⟩ := h.map.isMap
  obtain ⟨nw, hnw⟩ : ∃ nw, (N + 63) / 64 = nw := ⟨_, rfl⟩
  rw [hnw] at c2 e2
  have hk := make80 w nw (by omega)
  have c3 : (w.alloc (.cells (Array.replicate nw (.int .u64 0)) 107)).cell? ⟨g, 2, none⟩ = some (.slice (some ⟨wb, 0, none⟩) nw nw) := (((Below.refl _ _).alloc (Nat.le_refl _) _ : Below w.heap.size w _).cell (p := ⟨g, 2, none⟩) h.lt).trans c2
  have hcp := fun ty => copy_words e1 e2 hone (Array.replicate nw (.int .u64 0)) (by simp) ty
  have hz : ((N : Int) == 0) = false := by simp; omega
  obtain ⟨w1, hw1⟩ : ∃ w1, w1 = w.alloc (.cells cs 107) := ⟨_, rfl⟩
  have hB := cloneB_rows h e1 hmap hnw
  rw [← hw1] at hcp hB
  have HB := Lib.hid hB
  clear hB
  have d0 : w1.cell? ⟨g, 0, none⟩ = some (.int .i64 N) := by rw [hw1]; exact (((Below.refl _ _).alloc (Nat.le_refl _) _ : Below w.heap.size w _).cell (p := ⟨g, 0, none⟩) h.lt).trans c0
  have d1 : w1.cell? ⟨g, 1, none⟩ = some (.map (some mb)) := by rw [hw1]; exact (((Below.refl _ _).alloc (Nat.le_refl _) _ : Below w.heap.size w _).cell (p := ⟨g, 1, none⟩) h.lt).trans c1
  have d2 : w1.heap[mb]? = some (.map es ck) := by rw [hw1, Below.heap_alloc _ _ _ h.map.lt]; exact hmap
  have hw1s : w1.heap.size = w.heap.size + 1 := by rw [hw1]; simp
  have hgl : g < w1.heap.size := by have := h.lt; omega
  have D2 : Hid (w1.drew.heap[mb]? = some (.map es ck)) := d2
  have HW := Lib.hid hw1
  clear h e1 e2 e3 hone hmap hw1 hnw n1 n2
  go_enter Try.func48, Try.ntmps48
  go_wp2_with (go_at_call 47; refine (sizeB H.out).mono ?_; rintro e w' ⟨rfl, rfl⟩)
  go_outline
  clear d2
  go_region_held3 (fun W => W.cell? ⟨g, 0, none⟩ = some (.int .i64 N) ∧ W.cell? ⟨g, 1, none⟩ = some (.map (some mb))) (go_keep) ((go_at_call 72; refine (mclone D2.out).mono ?_; rintro e w' ⟨rfl, rfl⟩))
  go_wp2_with fail
  go_ret
  refine ⟨_, _, _, rfl, HB.out.heap rfl, by omega, by omega, by omega, ?_⟩
  rw [HW.out]
  exact (((Below.refl _ _).alloc (Nat.le_refl _) _).alloc (by simp) _).alloc (by simp; omega) _ |>.drew
end Go.Proofs.Ytklhnibmpdaioaa
