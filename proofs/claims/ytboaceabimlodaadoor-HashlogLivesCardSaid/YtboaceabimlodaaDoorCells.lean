/-
  Plain lemmas: the 75 cells of a hash. No condition.
-/
import Derived.Test.YtboaceabimlodaaDoorAbs
import Derived.Test.YtboaceabimlodaaDoorNil
import Derived.Deep.MidRow
import Derived.Laws.CopyRow
namespace Go.Proofs.YtboaceabimlodaaDoor
open Go.RowKit
def hlist (m : Bool) (H B : List Int) (n c : Int) : List Value := Value.bool m :: (H.map (Value.int .u32) ++ B.map (Value.int .u8) ++ [.int .i64 n, .int .u64 c])
theorem hcells_eq (m : Bool) (H B : List Int) (n c : Int) : hcells m H B n c = (hlist m H B n c).toArray := rfl
theorem hlist_len {m : Bool} {H B : List Int} {n c : Int} (hH : H.length = 8) (hB : B.length = 64) : (hlist m H B n c).length = 75 := by simp [hlist, hH, hB]
theorem hl_parts (m : Bool) (H B : List Int) (n c : Int) : hlist m H B n c = ([Value.bool m] ++ H.map (Value.int .u32)) ++ (B.map (Value.int .u8) ++ [.int .i64 n, .int .u64 c]) := by simp [hlist]
theorem h_made (m : Bool) (H B : List Int) (n c : Int) : (hcells m H B n c)[0]? = some (.bool m) := by simp [hcells]
theorem h_have {H B : List Int} (m : Bool) (n c : Int) (hH : H.length = 8) (hB : B.length = 64) : (hcells m H B n c)[73]? = some (.int .i64 n) := by
  rw [hcells_eq, List.getElem?_toArray, hl_parts, List.getElem?_append_right (by simp [hH]), List.getElem?_append_right (by simp [hH, hB])]
  simp [hH, hB]
theorem h_count {H B : List Int} (m : Bool) (n c : Int) (hH : H.length = 8) (hB : B.length = 64) : (hcells m H B n c)[74]? = some (.int .u64 c) := by
  rw [hcells_eq, List.getElem?_toArray, hl_parts, List.getElem?_append_right (by simp [hH]), List.getElem?_append_right (by simp [hH, hB])]
  simp [hH, hB]
theorem h_H {H B : List Int} (m : Bool) (n c : Int) (hH : H.length = 8) (j : Nat) (hj : j < 8) : (hcells m H B n c)[1 + j]? = some (.int .u32 (nth H j)) := by
  rw [hcells_eq, List.getElem?_toArray, hl_parts, List.getElem?_append_left (by simp [hH]; omega), Nat.add_comm 1 j]
  simp [nth, List.getD, hH, hj]
theorem h_B {H B : List Int} (m : Bool) (n c : Int) (hH : H.length = 8) (hB : B.length = 64) (j : Nat) (hj : j < 64) : (hcells m H B n c)[9 + j]? = some (.int .u8 (nth B j)) := by
  rw [hcells_eq, List.getElem?_toArray, hl_parts, List.getElem?_append_right (by simp [hH]), List.getElem?_append_left (by simp [hH, hB]; omega)]
  have e : 9 + j - ([Value.bool m] ++ H.map (Value.int .u32)).length = j := by simp [hH]
  rw [e]
  simp [nth, List.getD, hB, hj]
theorem hset_count {H B : List Int} (m : Bool) (n c d : Int) (hH : H.length = 8) (hB : B.length = 64) : (hcells m H B n c).setIfInBounds 74 (.int .u64 d) = hcells m H B n d := by
  apply Array.toList_inj.1
  rw [Array.toList_setIfInBounds, hcells_eq, hcells_eq, hl_parts, hl_parts]
  simp [hH, hB]
theorem hset_have {H B : List Int} (m : Bool) (n c d : Int) (hH : H.length = 8) (hB : B.length = 64) : (hcells m H B n c).setIfInBounds 73 (.int .i64 d) = hcells m H B d c := by
  apply Array.toList_inj.1
  rw [Array.toList_setIfInBounds, hcells_eq, hcells_eq, hl_parts, hl_parts]
  simp [hH, hB]
theorem hspl_B {H B : List Int} (m : Bool) (n c : Int) (hH : H.length = 8) (hB : B.length = 64) (o : Nat) (ys : List Int) (h : o + ys.length ≤ 64) :
    ((hcells m H B n c).toList.take (9 + o) ++ ys.map (Value.int .u8) ++ (hcells m H B n c).toList.drop (9 + o + ys.length)).toArray = hcells m H (spl B o ys) n c := by
  have hp : ([Value.bool m] ++ H.map (Value.int .u32)).length = 9 := by simp [hH]
  have e1 : (hcells m H B n c).toList = ([Value.bool m] ++ H.map (Value.int .u32)) ++ (B.map (Value.int .u8) ++ [Value.int .i64 n, Value.int .u64 c]) := hl_parts m H B n c
  rw [e1, hcells_eq, hl_parts]
  generalize [Value.bool m] ++ H.map (Value.int .u32) = pre at *
  have t1 : (pre ++ (B.map (Value.int .u8) ++ [Value.int .i64 n, Value.int .u64 c])).take (9 + o) = pre ++ (B.take o).map (Value.int .u8) := by
    rw [← hp, List.take_length_add_append, List.take_append_of_le_length (by simp [hB]; omega), List.map_take]
  have t2 : (pre ++ (B.map (Value.int .u8) ++ [Value.int .i64 n, Value.int .u64 c])).drop (9 + o + ys.length) = (B.drop (o + ys.length)).map (Value.int .u8) ++ [Value.int .i64 n, Value.int .u64 c] := by
    rw [← hp, Nat.add_assoc, List.drop_length_add_append, List.drop_append_of_le_length (by simp [hB]; omega), List.map_drop]
  rw [t1, t2]
  simp [spl]
theorem hspl_H {H B : List Int} (m : Bool) (n c : Int) (hH : H.length = 8) (G : List Int) (hG : G.length = 8) :
    ((hcells m H B n c).toList.take (1 + 0) ++ (ucells G).toList ++ (hcells m H B n c).toList.drop (1 + 0 + (ucells G).toList.length)).toArray = hcells m G B n c := by
  have e : (ucells G).toList.length = 8 := by simp [ucells, hG]
  have e1 : (hcells m H B n c).toList = [Value.bool m] ++ (H.map (Value.int .u32) ++ (B.map (Value.int .u8) ++ [Value.int .i64 n, Value.int .u64 c])) := by simp [hcells]
  rw [e, e1]
  have t2 : ([Value.bool m] ++ (H.map (Value.int .u32) ++ (B.map (Value.int .u8) ++ [Value.int .i64 n, Value.int .u64 c]))).drop (1 + 0 + 8) = B.map (Value.int .u8) ++ [Value.int .i64 n, Value.int .u64 c] := by
    rw [show 1 + 0 + 8 = [Value.bool m].length + 8 from rfl, List.drop_length_add_append]
    rw [show 8 = (H.map (Value.int .u32)).length by simp [hH], List.drop_left]
  rw [t2]
  simp [hcells, ucells]
/-- The hash lies in block g. -/
def HSat (w : World) (g : Nat) (s : HSt) (c : Int) : Prop := s.ok ∧ w.heap[g]? = some (.cells (hcells true s.H s.B s.n c) 67 (0, 0))
theorem range_H {w : World} {g : Nat} {m : Bool} {H B : List Int} {n c : Int} (hH : H.length = 8) (hg : w.heap[g]? = some (.cells (hcells m H B n c) 67 (0, 0))) : w.rangeAt g 1 (ucells H).toList := fun j v hv => by
  have hj : j < 8 := by
    rcases Nat.lt_or_ge j 8 with h | h
    · exact h
    · rw [List.getElem?_eq_none (by simp [ucells, hH]; exact h)] at hv; cases hv
  rw [cell_of_row _ _ _ _ _ _ hg, h_H m n c hH j hj, ← hv]
  simp [ucells, nth, List.getD, hH, hj]
theorem range_B {w : World} {g : Nat} {m : Bool} {H B : List Int} {n c : Int} (hH : H.length = 8) (hB : B.length = 64) (hg : w.heap[g]? = some (.cells (hcells m H B n c) 67 (0, 0))) : w.rangeAt g 9 (bcells B).toList := fun j v hv => by
  have hj : j < 64 := by
    rcases Nat.lt_or_ge j 64 with h | h
    · exact h
    · rw [List.getElem?_eq_none (by simp [bcells, hB]; exact h)] at hv; cases hv
  rw [cell_of_row _ _ _ _ _ _ hg, h_B m n c hH hB j hj, ← hv]
  simp [bcells, nth, List.getD, hB, hj]
/-- What the two tables hold. -/
def Glob (w : World) : Prop := (∀ j, j < 8 → w.cell? ⟨0, j, none⟩ = some (.int .u32 (nth SQ j))) ∧ (∀ j, j < 64 → w.cell? ⟨1, j, none⟩ = some (.int .u32 (nth KK j)))
theorem Glob.lt {w : World} (h : Glob w) : 1 < w.heap.size := World.block_lt_of_cell? w _ (h.2 0 (by omega))
theorem Glob.below {w w' : World} {b : Nat} (h : Glob w) (hb : Below b w w') (h2 : 2 ≤ b) : Glob w' :=
  ⟨fun j hj => by rw [hb.cell (by simp; omega)]; exact h.1 j hj, fun j hj => by rw [hb.cell (by simp; omega)]; exact h.2 j hj⟩
theorem Glob.grown {w w' : World} {row : Option Nat} (h : Glob w) (hg : w.grownBy w' row) (h2 : ∀ k, row = some k → 2 ≤ k) : Glob w' :=
  ⟨fun j hj => hg.cell (h.1 j hj) (fun e => by have := h2 0 e.symm; omega), fun j hj => hg.cell (h.2 j hj) (fun e => by have := h2 1 e.symm; omega)⟩
/-- A call of copy whose run is known, in a region that draws. -/
theorem step_copy_run {P : Program} {ops : Array Oper} {o : Oper} {a : Act} {w : World} {K : Act → World → Prop} {Q : Exit → Act → World → Prop} {E : Prop} (hgd : o.guard = none) (d s : Operand) (dT sT : TypeId)
    (ho : o.op = .call { callee := .builtin .copy, args := #[d, s], argTypes := #[dT, sT] }) (hty : o.type = 3) {x y v : Value} {w' : World} (hd : a.eval d = x) (hs : a.eval s = y) (hr : (Builtin.copy_ #[dT, sT] 3 #[x, y]).run P w = .ok v w')
    (hK : K (a.put o.dst v) w') : if Region.wanted o (yielded ops a.tmps) = true then Oper.wp P o a w K Q else E := by
  have hw : Region.wanted o (yielded ops a.tmps) = true := by simp [Region.wanted, hgd]
  rw [if_pos hw]
  unfold Oper.wp
  simp [execOp, ho, hty, resolve, invoke, builtin, hd, hs, hr, Result.andThen]
  exact hK
end Go.Proofs.YtboaceabimlodaaDoor
