/-
  Plain lemmas: slices of an array of bytes, and of a slice of bytes. No condition.
-/
import Derived.Test.YtboaceabimlodaaDoorCells
namespace Go.Proofs.YtboaceabimlodaaDoor
open Go.RowKit
theorem addr_add (g o n : Nat) : (⟨g, o, none⟩ : Addr).add n = ⟨g, o + n, none⟩ := by unfold Addr.add; split <;> simp_all
theorem len41 : Tryd.prog.arrayLen 65 = 64 := by kernel_rfl
theorem und41 : Tryd.prog.underlying 65 = some (.array (Tryd.prog.arrayLen 65) (Tryd.prog.elem 65)) := by kernel_rfl
theorem size5 (W : World) : (sizeOf (Tryd.prog.elem 65)).run Tryd.prog W = .ok 1 W := by kernel_rfl
theorem size5' (W : World) : (sizeOf (Tryd.prog.elem 23)).run Tryd.prog W = .ok 1 W := by kernel_rfl
/-- 'a[n:]' of an array of 64 bytes. -/
theorem arr_from (g o n : Nat) (hn : n < 64) (W : World) : (Instr.sliceAt 65 (.pointer (some ⟨g, o, none⟩)) (some (.int .i64 n)) none none).run Tryd.prog W = .ok (.slice (some ⟨g, o + n, none⟩) (64 - n) (64 - n)) W := by
  rw [run_sliceAt_array_l W 65 ⟨g, o, none⟩ und41 .i64 n (by omega) (by rw [len41]; omega), size5]
  have e : (64 = (n : Int).toNat) = False := by simp; omega
  simp only [Result.andThen, slicedAt, len41, Int.toNat_natCast, Nat.mul_one, addr_add]
  rw [if_neg (by omega)]
/-- 'a[:n]' of an array of 64 bytes. -/
theorem arr_to (g o n : Nat) (hn : n ≤ 64) (W : World) : (Instr.sliceAt 65 (.pointer (some ⟨g, o, none⟩)) none (some (.int .u64 n)) none).run Tryd.prog W = .ok (.slice (some ⟨g, o, none⟩) n 64) W := by
  rw [run_sliceAt_array_h W 65 ⟨g, o, none⟩ und41 .u64 n (by omega) (by rw [len41]; omega), size5]
  simp [Result.andThen, slicedAt, len41, addr_add]
/-- 'b[n:]' of a slice of bytes. -/
theorem sl_from (b o l cap n : Nat) (hn : n ≤ l) (W : World) : (Instr.slice 23 (.slice (some ⟨b, o, none⟩) l cap) (some (.int .i64 n)) none none).run Tryd.prog W =
    .ok (.slice (some (if cap = n then ⟨b, o, none⟩ else ⟨b, o + n, none⟩)) (l - n) (cap - n)) W := by
  rw [run_slice_l W 23 (some ⟨b, o, none⟩) l cap (by kernel_rfl) .i64 n (by omega) (by omega), size5']
  simp only [Result.andThen, sliced, Int.toNat_natCast, Nat.mul_one]
  by_cases e : cap = n
  · simp [e]
  · simp [e, addr_add]
theorem sees_cut {w : World} {b o cap m : Nat} {ys : List Int} (h : Sees w (.slice (some ⟨b, o, none⟩) ys.length cap) ys) (hc : cap ≤ maxLen) (hl : ys.length ≤ cap) (hm : m ≤ ys.length)
    (hcell : ∀ i, i < ys.length → w.cell? ⟨b, o + i, none⟩ = some (.int .u8 (nth ys i))) :
    Sees w (.slice (some (if cap = m then ⟨b, o, none⟩ else ⟨b, o + m, none⟩)) (ys.length - m) (cap - m)) (ys.drop m) := by
  refine ⟨h.1.drop m, ?_⟩
  have hd : (ys.drop m).length = ys.length - m := List.length_drop
  by_cases h0 : m = ys.length
  · have e1 : ys.drop m = [] := by rw [h0]; exact List.drop_length
    rw [e1, h0, Nat.sub_self]
    exact .inr (.inl ⟨_, _, rfl, rfl, Nat.le_trans (Nat.sub_le _ _) hc⟩)
  · rw [if_neg (by omega), ← hd]
    refine .inr (.inr ⟨b, o + m, cap - m, rfl, fun e => ?_, by omega, Nat.le_trans (Nat.sub_le _ _) hc, fun i hi => ?_⟩)
    · rw [e] at hd; simp at hd; omega
    · rw [Nat.add_assoc, hcell (m + i) (by omega)]
      simp [nth, List.getD, List.getElem?_drop]
theorem Sees.grown_at {w w' : World} {v : Value} {xs : List Int} {row : Option Nat} (h : Sees w v xs) (hg : w.grownBy w' row) (hne : ∀ k, row = some k → xs ≠ [] → v.ownBlock ≠ some k) : Sees w' v xs := by
  obtain ⟨h1, h2 | h2 | ⟨b, o, cap, rfl, h3, h4, h5, h6⟩⟩ := h
  · exact ⟨h1, .inl h2⟩
  · exact ⟨h1, .inr (.inl h2)⟩
  · refine ⟨h1, .inr (.inr ⟨b, o, cap, rfl, h3, h4, h5, fun i hi => ?_⟩)⟩
    exact hg.cell (h6 i hi) (fun e => hne b e.symm h3 (by simp [Value.ownBlock]))
theorem cut_block (b o cap m l c : Nat) : (Value.slice (some (if cap = m then (⟨b, o, none⟩ : Addr) else ⟨b, o + m, none⟩)) l c).ownBlock = some b := by
  by_cases h : cap = m
  · rw [if_pos h]; rfl
  · rw [if_neg h]; rfl
theorem blk_lt {w : World} {g : Nat} {o : Obj} (h : w.heap[g]? = some o) : g < w.heap.size := (Array.getElem?_eq_some_iff.1 h).1
theorem run_storeVar_at {P : Program} (w : World) (g o : Nat) (t ty : TypeId) (cur cells : Array Value) (hg : w.heap[g]? = some (.cells cur t (0, 0))) (hi : (P.info? ty).map (·.size) = some cells.size)
    (hfit : o + cells.size ≤ cur.size) (h1 : ∀ v ∈ cells.toList, v.oneCell' = true) :
    (storeVar ty ⟨g, o, none⟩ (.agg cells)).run P w = .ok () (w.setRow g (cur.toList.take (o + 0) ++ cells.toList ++ cur.toList.drop (o + 0 + cells.toList.length)).toArray) := by
  have := run_storeCells_at P g o t cells.toList 0 cur w hg (by simpa using hfit) h1
  cases hq : P.info? ty with
  | none => simp [hq] at hi
  | some i =>
    have hs : cells.size = i.size := by simp [hq] at hi; omega
    simp only [Nat.add_zero] at this ⊢
    simp [storeVar, sizeOf, typeInfo, hq, Value.cells, hs, this]
theorem wp_store_at {P : Program} {o : Oper} {a : Act} {w : World} {K : Act → World → Prop} {Q : Exit → Act → World → Prop} (ty : TypeId) (x y : Operand) (ho : o.op = .store ty x y)
    (g off : Nat) (cells : Array Value) (hx : a.eval x = .pointer (some ⟨g, off, none⟩)) (hy : a.eval y = .agg cells)
    (t : TypeId) (cur : Array Value) (hg : w.heap[g]? = some (.cells cur t (0, 0))) (hi : (P.info? ty).map (·.size) = some cells.size)
    (hfit : off + cells.size ≤ cur.size) (h1 : ∀ v ∈ cells.toList, v.oneCell' = true)
    (h : K (a.put o.dst undef) (w.setRow g (cur.toList.take (off + 0) ++ cells.toList ++ cur.toList.drop (off + 0 + cells.toList.length)).toArray)) : o.wp P a w K Q := by
  unfold Oper.wp execOp
  simp only [ho, hx, hy, Instr.storeAt, Instr.sureAddr, Sem.run_bind, Sem.run_pure, Result.andThen_ok, run_storeVar_at w g off t ty cur cells hg hi hfit h1]
  exact h
end Go.Proofs.YtboaceabimlodaaDoor
