/-
  Contracts of the functions that the statements of package sha go through: what must come of fixed calls. Condition: the two tables hold what they hold.
-/
import Derived.Test.YtboaceabimlodaaDoorSums
import Derived.Stop.BytesEq
import Derived.Lib.SlBytesConst
namespace Go.Proofs.YtboaceabimlodaaDoor
open Go.RowKit
theorem cells_tob (xs : List Int) (h : Byt xs) : bcells xs = ((tob xs).map Extern.Stop.cell).toArray := by
  unfold bcells tob
  rw [List.map_map]
  congr 1
  apply List.map_congr_left
  intro x hx
  have := h x hx
  simp only [Function.comp_def, Extern.Stop.cell]
  congr 1
  simp
  omega
theorem eq27 (xs ys : List Int) (hx : Byt xs) (hy : Byt ys) (lx : xs.length = 32) (ly : ys.length = 32) (w : World) : (Op.equalIn 10000 31 (.agg (bcells xs)) (.agg (bcells ys))).run Tryd.prog w = .ok (decide (xs = ys)) w := by
  have h := run_equalIn_bytes (P := Tryd.prog) w 9998 31 5 32 (by kernel_rfl) Tryd.underlying5 (fun _ => by kernel_rfl) (tob xs) (tob ys) (by simp [tob, lx]) (by simp [tob, ly])
  rw [← cells_tob xs hx, ← cells_tob ys hy] at h
  rw [h]
  congr 1
  by_cases e : xs = ys
  · subst e; simp
  · have : tob xs ≠ tob ys := fun h => e (tob_inj hx hy h)
    simp [e, this]
theorem eq27_same (xs : List Int) (hx : Byt xs) (lx : xs.length = 32) (w : World) : (Op.equalIn 10000 31 (.agg (bcells xs)) (.agg (bcells xs))).run Tryd.prog w = .ok true w := by
  rw [eq27 xs xs hx hx lx lx w]; simp
theorem sha_abc : sha [97, 98, 99] = [186, 120, 22, 191, 143, 1, 207, 234, 65, 65, 64, 222, 93, 174, 34, 35, 176, 3, 97, 163, 150, 23, 122, 156, 180, 16, 255, 97, 242, 0, 21, 173] := by decide +kernel
theorem sha_nil : sha [] = [227, 176, 196, 66, 152, 252, 28, 20, 154, 251, 244, 200, 153, 111, 185, 36, 39, 174, 65, 228, 100, 155, 147, 76, 164, 149, 153, 27, 120, 82, 184, 85] := by decide +kernel
theorem byt3 : Byt [97, 98, 99] := byt_of _ (by decide)
theorem byt2 : Byt [97, 98] := byt_of _ (by decide)
theorem byt1 : Byt [99] := byt_of _ (by decide)
theorem sees_lit {w : World} (cs : Array Value) (xs : List Int) (hc : cs = bcells xs) (hb : Byt xs) (n : Nat) (hn : n = xs.length) (hm : xs.length ≤ maxLen) : Sees (w.alloc (.cells cs 5)) (.slice (some ⟨w.heap.size, 0, none⟩) n n) xs :=
  sees_new w cs xs hc hb hm _ rfl n hn
theorem glob_alloc {w : World} (h : Glob w) (o : Obj) : Glob (w.alloc o) := h.below (b := w.heap.size) ((Below.refl _ _).alloc (Nat.le_refl _) _) (by have := h.lt; omega)
theorem conv22 (w : World) (C : Array Value) (n c : Nat) : (convert 23 23 (.slice (some ⟨w.heap.size, 0, none⟩) n c)).run Tryd.prog (w.alloc (.cells C 5)) = .ok (.slice (some ⟨w.heap.size, 0, none⟩) n c) (w.alloc (.cells C 5 (C.size, C.size + 1))) :=
  Lib.run_convert_bytes_const (P := Tryd.prog) w 23 5 C n c Tryd.underlying23 Tryd.underlying5
theorem sees_mark {w : World} (cs : Array Value) (xs : List Int) (hc : cs = bcells xs) (hb : Byt xs) (n : Nat) (hn : n = xs.length) (hm : xs.length ≤ maxLen) (fr : Nat × Nat) : Sees (w.alloc (.cells cs 5 fr)) (.slice (some ⟨w.heap.size, 0, none⟩) n n) xs := by
  subst hc hn
  refine ⟨hb, ?_⟩
  by_cases h0 : xs = []
  · subst h0; exact .inr (.inl ⟨_, _, rfl, rfl, by simp [maxLen]⟩)
  · refine .inr (.inr ⟨_, _, _, rfl, h0, Nat.le_refl _, hm, fun i hi => ?_⟩)
    rw [cell_of_row _ _ _ _ _ _ (heap_alloc_new w _)]
    simp [bcells, nth, hi, List.getD]
theorem HSat.below {w w' : World} {g : Nat} {s : HSt} {c : Int} (h : HSat w g s c) (hb : Below w.heap.size w w') : HSat w' g s c := ⟨h.1, by rw [hb.block _ (blk_lt h.2)]; exact h.2⟩
/-- A row that is read in a plain region, where a guard lets it by. -/
theorem wpList_load_want {P : Program} {ops : Array Oper} {rest : List Oper} {op : Oper} {a : Act} {w : World} {Q : Exit → Act → World → Prop} (hw : Region.wanted op (yielded ops a.tmps) = true) (ty : TypeId) (x : Operand) (ho : op.op = .load ty x)
    (b o : Nat) (hx : a.eval x = .pointer (some ⟨b, o, none⟩)) (cs : List Value) (d : TypeDesc) (hc : w.rangeAt b o cs)
    (hu : P.underlying ty = some d) (hd : d.isRow = true) (hi : (P.info? ty).map (·.size) = some cs.length)
    (h : wpList P ops Q rest (a.put op.dst (.agg cs.toArray)) w) : wpList P ops Q (op :: rest) a w :=
  wpList_step fun K hK => by
    rw [if_pos hw]
    exact wp_load_mid ty x ho b o hx cs d hc hu hd hi (hK _ _ h)
/-- A row of 32 bytes in a block. -/
def Row27 (w : World) (g : Nat) (xs : List Int) : Prop := w.heap[g]? = some (.cells (bcells xs) 31 (0, 0))
theorem Row27.below {w w' : World} {g : Nat} {xs : List Int} (h : Row27 w g xs) (hb : Below w.heap.size w w') : Row27 w' g xs := by
  unfold Row27; rw [hb.block _ (blk_lt h)]; exact h
theorem Row27.grown {w w' : World} {g k : Nat} {xs : List Int} (h : Row27 w g xs) (hb : w.grownBy w' (some k)) (hne : g ≠ k) : Row27 w' g xs := by
  unfold Row27; rw [hb.block _ (blk_lt h) (by intro e; exact hne (Option.some.inj e))]; exact h
theorem Row27.cell {w : World} {g : Nat} {xs : List Int} (h : Row27 w g xs) (i : Nat) (hi : i < xs.length) : w.cell? ⟨g, i, none⟩ = some (.int .u8 (nth xs i)) := by
  rw [cell_of_row _ _ _ _ _ _ h]; simp [bcells, nth, List.getD, hi]
theorem Row27.range {w : World} {g : Nat} {xs : List Int} (h : Row27 w g xs) : w.rangeAt g 0 (bcells xs).toList := fun j v hv => by rw [Nat.zero_add, cell_of_row _ _ _ _ _ _ h]; simpa using hv
theorem len27' (xs : List Int) (hl : xs.length = 32) : (Tryd.prog.info? 31).map (·.size) = some (bcells xs).toList.length := by rw [i27]; simp [bcells, hl]
theorem Row27.load {w : World} {g : Nat} {xs : List Int} (h : Row27 w g xs) (hl : xs.length = 32) : (Instr.loadAt 31 (.pointer (some ⟨g, 0, none⟩))).run Tryd.prog w = .ok (.agg (bcells xs)) w := by
  have hr : w.rangeAt g 0 (bcells xs).toList := fun j v hv => by rw [Nat.zero_add, cell_of_row _ _ _ _ _ _ h]; simpa using hv
  have := run_loadAt_mid (P := Tryd.prog) w g 0 31 (bcells xs).toList _ hr Tryd.underlying31 rfl (by rw [i27]; simp [bcells, hl])
  simpa using this
end Go.Proofs.YtboaceabimlodaaDoor
