/-
  Plain lemmas: slices of an array of bytes, and of a slice of bytes. No condition.
-/
import Derived.Test.YtjdamlmoegippaaDoorHlTake
import Derived.Test.YtjdamlmoegippaaDoorHlAbs
import Derived.Deep.MidRow
import Derived.Laws.CopyRow
namespace Go.Proofs.YtjdamlmoegippaaDoor.hl
open Go.RowKit
/-- The cells of a hash. -/
def hcells (made : Bool) (H B : List Int) (have_ count : Int) : Array Value := (Value.bool made :: (H.map (Value.int .u32) ++ B.map (Value.int .u8) ++ [.int .i64 have_, .int .u64 count])).toArray
set_option maxRecDepth 100000 in
set_option maxHeartbeats 2000000 in
theorem new (a b c d e f g h : Int) (w : World) (fr : Nat × Nat) (hg : w.heap[0]? = some (.cells #[.int .u32 a, .int .u32 b, .int .u32 c, .int .u32 d, .int .u32 e, .int .u32 f, .int .u32 g, .int .u32 h] 127 fr)) :
    Calls Tryd.prog 63 #[] w fun e1 w' => e1 = .returned (.pointer (some ⟨w.heap.size, 0, none⟩)) ∧ w.alloc (.cells (hcells true [a, b, c, d, e, f, g, h] (List.replicate 64 0) 0 0) 129) = w' := by
  have hz : ∀ w, (zeroValue 129).run Tryd.prog w = .ok (.agg #[.bool false, .int .u32 0, .int .u32 0, .int .u32 0, .int .u32 0, .int .u32 0, .int .u32 0, .int .u32 0, .int .u32 0, .int .u8 0, .int .u8 0, .int .u8 0, .int .u8 0, .int .u8 0, .int .u8 0, .int .u8 0, .int .u8 0, .int .u8 0, .int .u8 0, .int .u8 0, .int .u8 0, .int .u8 0, .int .u8 0, .int .u8 0, .int .u8 0, .int .u8 0, .int .u8 0, .int .u8 0, .int .u8 0, .int .u8 0, .int .u8 0, .int .u8 0, .int .u8 0, .int .u8 0, .int .u8 0, .int .u8 0, .int .u8 0, .int .u8 0, .int .u8 0, .int .u8 0, .int .u8 0, .int .u8 0, .int .u8 0, .int .u8 0, .int .u8 0, .int .u8 0, .int .u8 0, .int .u8 0, .int .u8 0, .int .u8 0, .int .u8 0, .int .u8 0, .int .u8 0, .int .u8 0, .int .u8 0, .int .u8 0, .int .u8 0, .int .u8 0, .int .u8 0, .int .u8 0, .int .u8 0, .int .u8 0, .int .u8 0, .int .u8 0, .int .u8 0, .int .u8 0, .int .u8 0, .int .u8 0, .int .u8 0, .int .u8 0, .int .u8 0, .int .u8 0, .int .u8 0, .int .i64 0, .int .u64 0]) w := fun _ => by kernel_rfl
  have i40 : (Tryd.prog.info? 127).map (·.size) = some 8 := by kernel_rfl
  go_enter Tryd.func63, Tryd.ntmps63
  go_wp2_with (refine wpList_load_row rfl 127 _ rfl 0 rfl 127 _ fr _ hg Tryd.underlying127 rfl i40 ?_)
  go_ret
  exact ⟨rfl, rfl⟩
end Go.Proofs.YtjdamlmoegippaaDoor.hl
namespace Go.Proofs.YtjdamlmoegippaaDoor.hl
open Go.RowKit
def hlist (m : Bool) (H B : List Int) (n c : Int) : List Value := Value.bool m :: (H.map (Value.int .u32) ++ B.map (Value.int .u8) ++ [.int .i64 n, .int .u64 c])
theorem hcells_eq (m : Bool) (H B : List Int) (n c : Int) : hcells m H B n c = (hlist m H B n c).toArray := rfl
theorem hlist_len {m : Bool} {H B : List Int} {n c : Int} (hH : H.length = 8) (hB : B.length = 64) : (hlist m H B n c).length = 75 := by simp [hlist, hH, hB]
theorem hl_parts (m : Bool) (H B : List Int) (n c : Int) : hlist m H B n c = ([Value.bool m] ++ H.map (Value.int .u32)) ++ (B.map (Value.int .u8) ++ [.int .i64 n, .int .u64 c]) := by simp [hlist]
theorem h_have {H B : List Int} (m : Bool) (n c : Int) (hH : H.length = 8) (hB : B.length = 64) : (hcells m H B n c)[73]? = some (.int .i64 n) := by
  rw [hcells_eq, List.getElem?_toArray, hl_parts, List.getElem?_append_right (by simp [hH]), List.getElem?_append_right (by simp [hH, hB])]
  simp [hH, hB]
theorem h_count {H B : List Int} (m : Bool) (n c : Int) (hH : H.length = 8) (hB : B.length = 64) : (hcells m H B n c)[74]? = some (.int .u64 c) := by
  rw [hcells_eq, List.getElem?_toArray, hl_parts, List.getElem?_append_right (by simp [hH]), List.getElem?_append_right (by simp [hH, hB])]
  simp [hH, hB]
theorem h_H {H B : List Int} (m : Bool) (n c : Int) (hH : H.length = 8) (j : Nat) (hj : j < 8) : (hcells m H B n c)[1 + j]? = some (.int .u32 (nth H j)) := by
  rw [hcells_eq, List.getElem?_toArray, hl_parts, List.getElem?_append_left (by simp [hH]; omega), Nat.add_comm 1 j]
  simp [nth, List.getD, hH, hj]
theorem h_B {H B : List Int} (m : Bool) (n c : Int) (hH : H.length = 8) (hB : B.length = 64) (j : Nat) (hj : j < 64) : (hcells m H B n c)[9 + j]? = some (.int .u8 (nth B j)) := by
  rw [hcells_eq, List.getElem?_toArray, hl_parts, List.getElem?_append_right (by simp [hH]), List.getElem?_append_left (by simp [hH, hB]; omega)]
  have e : 9 + j - ([Value.bool m] ++ H.map (Value.int .u32)).length = j := by simp [hH]
  rw [e]
  simp [nth, List.getD, hB, hj]
theorem hset_count {H B : List Int} (m : Bool) (n c d : Int) (hH : H.length = 8) (hB : B.length = 64) : (hcells m H B n c).setIfInBounds 74 (.int .u64 d) = hcells m H B n d := by
  apply Array.toList_inj.1
  rw [Array.toList_setIfInBounds, hcells_eq, hcells_eq, hl_parts, hl_parts]
  simp [hH, hB]
theorem hset_have {H B : List Int} (m : Bool) (n c d : Int) (hH : H.length = 8) (hB : B.length = 64) : (hcells m H B n c).setIfInBounds 73 (.int .i64 d) = hcells m H B d c := by
  apply Array.toList_inj.1
  rw [Array.toList_setIfInBounds, hcells_eq, hcells_eq, hl_parts, hl_parts]
  simp [hH, hB]
theorem hspl_B {H B : List Int} (m : Bool) (n c : Int) (hH : H.length = 8) (hB : B.length = 64) (o : Nat) (ys : List Int) (h : o + ys.length ≤ 64) :
    ((hcells m H B n c).toList.take (9 + o) ++ ys.map (Value.int .u8) ++ (hcells m H B n c).toList.drop (9 + o + ys.length)).toArray = hcells m H (spl B o ys) n c := by
  have hp : ([Value.bool m] ++ H.map (Value.int .u32)).length = 9 := by simp [hH]
  have e1 : (hcells m H B n c).toList = ([Value.bool m] ++ H.map (Value.int .u32)) ++ (B.map (Value.int .u8) ++ [Value.int .i64 n, Value.int .u64 c]) := hl_parts m H B n c
  rw [e1, hcells_eq, hl_parts]
  generalize [Value.bool m] ++ H.map (Value.int .u32) = pre at *
  have t1 : (pre ++ (B.map (Value.int .u8) ++ [Value.int .i64 n, Value.int .u64 c])).take (9 + o) = pre ++ (B.take o).map (Value.int .u8) := by
    rw [← hp, List.take_length_add_append, List.take_append_of_le_length (by simp [hB]; omega), List.map_take]
  have t2 : (pre ++ (B.map (Value.int .u8) ++ [Value.int .i64 n, Value.int .u64 c])).drop (9 + o + ys.length) = (B.drop (o + ys.length)).map (Value.int .u8) ++ [Value.int .i64 n, Value.int .u64 c] := by
    rw [← hp, Nat.add_assoc, List.drop_length_add_append, List.drop_append_of_le_length (by simp [hB]; omega), List.map_drop]
  rw [t1, t2]
  simp [spl]
theorem hspl_H {H B : List Int} (m : Bool) (n c : Int) (hH : H.length = 8) (G : List Int) (hG : G.length = 8) :
    ((hcells m H B n c).toList.take (1 + 0) ++ (ucells G).toList ++ (hcells m H B n c).toList.drop (1 + 0 + (ucells G).toList.length)).toArray = hcells m G B n c := by
  have e : (ucells G).toList.length = 8 := by simp [ucells, hG]
  have e1 : (hcells m H B n c).toList = [Value.bool m] ++ (H.map (Value.int .u32) ++ (B.map (Value.int .u8) ++ [Value.int .i64 n, Value.int .u64 c])) := by simp [hcells]
  rw [e, e1]
  have t2 : ([Value.bool m] ++ (H.map (Value.int .u32) ++ (B.map (Value.int .u8) ++ [Value.int .i64 n, Value.int .u64 c]))).drop (1 + 0 + 8) = B.map (Value.int .u8) ++ [Value.int .i64 n, Value.int .u64 c] := by
    rw [show 1 + 0 + 8 = [Value.bool m].length + 8 from rfl, List.drop_length_add_append]
    rw [show 8 = (H.map (Value.int .u32)).length by simp [hH], List.drop_left]
  rw [t2]
  simp [hcells, ucells]
/-- The hash lies in block g. -/
def HSat (w : World) (g : Nat) (s : HSt) (c : Int) : Prop := s.ok ∧ w.heap[g]? = some (.cells (hcells true s.H s.B s.n c) 129 (0, 0))
theorem range_H {w : World} {g : Nat} {m : Bool} {H B : List Int} {n c : Int} (hH : H.length = 8) (hg : w.heap[g]? = some (.cells (hcells m H B n c) 129 (0, 0))) : w.rangeAt g 1 (ucells H).toList := fun j v hv => by
  have hj : j < 8 := by
    rcases Nat.lt_or_ge j 8 with h | h
    · exact h
    · rw [List.getElem?_eq_none (by simp [ucells, hH]; exact h)] at hv; cases hv
  rw [cell_of_row _ _ _ _ _ _ hg, h_H m n c hH j hj, ← hv]
  simp [ucells, nth, List.getD, hH, hj]
theorem range_B {w : World} {g : Nat} {m : Bool} {H B : List Int} {n c : Int} (hH : H.length = 8) (hB : B.length = 64) (hg : w.heap[g]? = some (.cells (hcells m H B n c) 129 (0, 0))) : w.rangeAt g 9 (bcells B).toList := fun j v hv => by
  have hj : j < 64 := by
    rcases Nat.lt_or_ge j 64 with h | h
    · exact h
    · rw [List.getElem?_eq_none (by simp [bcells, hB]; exact h)] at hv; cases hv
  rw [cell_of_row _ _ _ _ _ _ hg, h_B m n c hH hB j hj, ← hv]
  simp [bcells, nth, List.getD, hB, hj]
/-- What the two tables hold. -/
def Glob (w : World) : Prop := (∀ j, j < 8 → w.cell? ⟨0, j, none⟩ = some (.int .u32 (nth SQ j))) ∧ (∀ j, j < 64 → w.cell? ⟨1, j, none⟩ = some (.int .u32 (nth KK j)))
theorem Glob.lt {w : World} (h : Glob w) : 1 < w.heap.size := World.block_lt_of_cell? w _ (h.2 0 (by omega))
theorem Glob.below {w w' : World} {b : Nat} (h : Glob w) (hb : Below b w w') (h2 : 2 ≤ b) : Glob w' :=
  ⟨fun j hj => by rw [hb.cell (by simp; omega)]; exact h.1 j hj, fun j hj => by rw [hb.cell (by simp; omega)]; exact h.2 j hj⟩
theorem Glob.grown {w w' : World} {row : Option Nat} (h : Glob w) (hg : w.grownBy w' row) (h2 : ∀ k, row = some k → 2 ≤ k) : Glob w' :=
  ⟨fun j hj => hg.cell (h.1 j hj) (fun e => by have := h2 0 e.symm; omega), fun j hj => hg.cell (h.2 j hj) (fun e => by have := h2 1 e.symm; omega)⟩
/-- A call of copy whose run is known, in a region that draws. -/
theorem step_copy_run {P : Program} {ops : Array Oper} {o : Oper} {a : Act} {w : World} {K : Act → World → Prop} {Q : Exit → Act → World → Prop} {E : Prop} (hgd : o.guard = none) (d s : Operand) (dT sT : TypeId)
    (ho : o.op = .call { callee := .builtin .copy, args := #[d, s], argTypes := #[dT, sT] }) (hty : o.type = 3) {x y v : Value} {w' : World} (hd : a.eval d = x) (hs : a.eval s = y) (hr : (Builtin.copy_ #[dT, sT] 3 #[x, y]).run P w = .ok v w')
    (hK : K (a.put o.dst v) w') : if Region.wanted o (yielded ops a.tmps) = true then Oper.wp P o a w K Q else E := by
  have hw : Region.wanted o (yielded ops a.tmps) = true := by simp [Region.wanted, hgd]
  rw [if_pos hw]
  unfold Oper.wp
  simp [execOp, ho, hty, resolve, invoke, builtin, hd, hs, hr, Result.andThen]
  exact hK
end Go.Proofs.YtjdamlmoegippaaDoor.hl
namespace Go.Proofs.YtjdamlmoegippaaDoor.hl
open Go.RowKit
theorem addr_add (g o n : Nat) : (⟨g, o, none⟩ : Addr).add n = ⟨g, o + n, none⟩ := by unfold Addr.add; split <;> simp_all
theorem len41 : Tryd.prog.arrayLen 92 = 64 := by kernel_rfl
theorem und41 : Tryd.prog.underlying 92 = some (.array (Tryd.prog.arrayLen 92) (Tryd.prog.elem 92)) := by kernel_rfl
theorem size5 (W : World) : (sizeOf (Tryd.prog.elem 92)).run Tryd.prog W = .ok 1 W := by kernel_rfl
theorem size5' (W : World) : (sizeOf (Tryd.prog.elem 37)).run Tryd.prog W = .ok 1 W := by kernel_rfl
/-- 'a[n:]' of an array of 64 bytes. -/
theorem arr_from (g o n : Nat) (hn : n < 64) (W : World) : (Instr.sliceAt 92 (.pointer (some ⟨g, o, none⟩)) (some (.int .i64 n)) none none).run Tryd.prog W = .ok (.slice (some ⟨g, o + n, none⟩) (64 - n) (64 - n)) W := by
  rw [run_sliceAt_array_l W 92 ⟨g, o, none⟩ und41 .i64 n (by omega) (by rw [len41]; omega), size5]
  have e : (64 = (n : Int).toNat) = False := by simp; omega
  simp only [Result.andThen, slicedAt, len41, Int.toNat_natCast, Nat.mul_one, addr_add]
  rw [if_neg (by omega)]
/-- 'a[:n]' of an array of 64 bytes. -/
theorem arr_to (g o n : Nat) (hn : n ≤ 64) (W : World) : (Instr.sliceAt 92 (.pointer (some ⟨g, o, none⟩)) none (some (.int .u64 n)) none).run Tryd.prog W = .ok (.slice (some ⟨g, o, none⟩) n 64) W := by
  rw [run_sliceAt_array_h W 92 ⟨g, o, none⟩ und41 .u64 n (by omega) (by rw [len41]; omega), size5]
  simp [Result.andThen, slicedAt, len41, addr_add]
/-- 'b[n:]' of a slice of bytes. -/
theorem sl_from (b o l cap n : Nat) (hn : n ≤ l) (W : World) : (Instr.slice 37 (.slice (some ⟨b, o, none⟩) l cap) (some (.int .i64 n)) none none).run Tryd.prog W =
    .ok (.slice (some (if cap = n then ⟨b, o, none⟩ else ⟨b, o + n, none⟩)) (l - n) (cap - n)) W := by
  rw [run_slice_l W 37 (some ⟨b, o, none⟩) l cap (by kernel_rfl) .i64 n (by omega) (by omega), size5']
  simp only [Result.andThen, sliced, Int.toNat_natCast, Nat.mul_one]
  by_cases e : cap = n
  · simp [e]
  · simp [e, addr_add]
theorem sees_cut {w : World} {b o cap m : Nat} {ys : List Int} (h : Sees w (.slice (some ⟨b, o, none⟩) ys.length cap) ys) (hc : cap ≤ maxLen) (hl : ys.length ≤ cap) (hm : m ≤ ys.length)
    (hcell : ∀ i, i < ys.length → w.cell? ⟨b, o + i, none⟩ = some (.int .u8 (nth ys i))) :
    Sees w (.slice (some (if cap = m then ⟨b, o, none⟩ else ⟨b, o + m, none⟩)) (ys.length - m) (cap - m)) (ys.drop m) := by
  refine ⟨h.1.drop m, ?_⟩
  have hd : (ys.drop m).length = ys.length - m := List.length_drop
  by_cases h0 : m = ys.length
  · have e1 : ys.drop m = [] := by rw [h0]; exact List.drop_length
    rw [e1, h0, Nat.sub_self]
    exact .inr (.inl ⟨_, _, rfl, rfl, Nat.le_trans (Nat.sub_le _ _) hc⟩)
  · rw [if_neg (by omega), ← hd]
    refine .inr (.inr ⟨b, o + m, cap - m, rfl, fun e => ?_, by omega, Nat.le_trans (Nat.sub_le _ _) hc, fun i hi => ?_⟩)
    · rw [e] at hd; simp at hd; omega
    · rw [Nat.add_assoc, hcell (m + i) (by omega)]
      simp [nth, List.getD, List.getElem?_drop]
theorem Sees.grown_at {w w' : World} {v : Value} {xs : List Int} {row : Option Nat} (h : Sees w v xs) (hg : w.grownBy w' row) (hne : ∀ k, row = some k → xs ≠ [] → v.ownBlock ≠ some k) : Sees w' v xs := by
  obtain ⟨h1, h2 | h2 | ⟨b, o, cap, rfl, h3, h4, h5, h6⟩⟩ := h
  · exact ⟨h1, .inl h2⟩
  · exact ⟨h1, .inr (.inl h2)⟩
  · refine ⟨h1, .inr (.inr ⟨b, o, cap, rfl, h3, h4, h5, fun i hi => ?_⟩)⟩
    exact hg.cell (h6 i hi) (fun e => hne b e.symm h3 (by simp [Value.ownBlock]))
theorem cut_block (b o cap m l c : Nat) : (Value.slice (some (if cap = m then (⟨b, o, none⟩ : Addr) else ⟨b, o + m, none⟩)) l c).ownBlock = some b := by
  by_cases h : cap = m
  · rw [if_pos h]; rfl
  · rw [if_neg h]; rfl
theorem blk_lt {w : World} {g : Nat} {o : Obj} (h : w.heap[g]? = some o) : g < w.heap.size := (Array.getElem?_eq_some_iff.1 h).1
theorem run_storeVar_at {P : Program} (w : World) (g o : Nat) (t ty : TypeId) (cur cells : Array Value) (hg : w.heap[g]? = some (.cells cur t (0, 0))) (hi : (P.info? ty).map (·.size) = some cells.size)
    (hfit : o + cells.size ≤ cur.size) (h1 : ∀ v ∈ cells.toList, v.oneCell' = true) :
    (storeVar ty ⟨g, o, none⟩ (.agg cells)).run P w = .ok () (w.setRow g (cur.toList.take (o + 0) ++ cells.toList ++ cur.toList.drop (o + 0 + cells.toList.length)).toArray) := by
  have := run_storeCells_at P g o t cells.toList 0 cur w hg (by simpa using hfit) h1
  cases hq : P.info? ty with
  | none => simp [hq] at hi
  | some i =>
    have hs : cells.size = i.size := by simp [hq] at hi; omega
    simp only [Nat.add_zero] at this ⊢
    simp [storeVar, sizeOf, typeInfo, hq, Value.cells, hs, this]
theorem wp_store_at {P : Program} {o : Oper} {a : Act} {w : World} {K : Act → World → Prop} {Q : Exit → Act → World → Prop} (ty : TypeId) (x y : Operand) (ho : o.op = .store ty x y)
    (g off : Nat) (cells : Array Value) (hx : a.eval x = .pointer (some ⟨g, off, none⟩)) (hy : a.eval y = .agg cells)
    (t : TypeId) (cur : Array Value) (hg : w.heap[g]? = some (.cells cur t (0, 0))) (hi : (P.info? ty).map (·.size) = some cells.size)
    (hfit : off + cells.size ≤ cur.size) (h1 : ∀ v ∈ cells.toList, v.oneCell' = true)
    (h : K (a.put o.dst undef) (w.setRow g (cur.toList.take (off + 0) ++ cells.toList ++ cur.toList.drop (off + 0 + cells.toList.length)).toArray)) : o.wp P a w K Q := by
  unfold Oper.wp execOp
  simp only [ho, hx, hy, Instr.storeAt, Instr.sureAddr, Sem.run_bind, Sem.run_pure, Result.andThen_ok, run_storeVar_at w g off t ty cur cells hg hi hfit h1]
  exact h
end Go.Proofs.YtjdamlmoegippaaDoor.hl
