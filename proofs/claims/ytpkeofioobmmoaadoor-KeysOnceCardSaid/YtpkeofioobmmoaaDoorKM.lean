/-
  Parts that are put together into a row of bytes, and read of it; keys' slots as bytes. No condition.
-/
import Derived.Test.YtpkeofioobmmoaaDoorKL
import Derived.Test.YtpkeofioobmmoaaDoorAeWrQ
import Derived.Laws.Cover3
namespace Go.Proofs.YtpkeofioobmmoaaDoor
open Go.RowKit Go.Proofs.YtpkeofioobmmoaaDoor.ae
theorem fold_at (off : Nat) : ∀ (L : List Value) (k : Nat) (cs : Array Value) (i : Nat), ((L.zipIdx k).foldl (fun cs (p : Value × Nat) => cs.setIfInBounds (off + p.2) p.1) cs)[i]? = if off + k ≤ i ∧ i < off + k + L.length ∧ i < cs.size then L[i - off - k]? else cs[i]?
  | [], k, cs, i => by
    rw [if_neg (by simp; omega)]; rfl
  | c :: L, k, cs, i => by
    rw [List.zipIdx_cons, List.foldl_cons, fold_at off L (k + 1)]
    simp only [Array.size_setIfInBounds, List.length_cons, Array.getElem?_setIfInBounds]
    by_cases h1 : off + k = i
    · subst h1
      rw [if_neg (by omega)]
      by_cases h2 : off + k < cs.size
      · rw [if_pos rfl, if_pos h2, if_pos (by omega)]
        simp
      · rw [if_pos rfl, if_neg h2, if_neg (by omega)]
        rw [Array.getElem?_eq_none (by omega)]
    · rw [if_neg h1]
      by_cases h2 : off + k + 1 ≤ i ∧ i < off + k + 1 + L.length ∧ i < cs.size
      · rw [if_pos (by omega), if_pos (by omega)]
        rw [show i - off - k = (i - off - (k + 1)) + 1 by omega, List.getElem?_cons_succ]
      · rw [if_neg (by omega), if_neg (by omega)]
theorem fold_cells (cs B : Array Value) (off : Nat) (i : Nat) : ((B.zipIdx).foldl (fun cs (p : Value × Nat) => cs.setIfInBounds (off + p.2) p.1) cs)[i]? = if off ≤ i ∧ i < off + B.size ∧ i < cs.size then B[i - off]? else cs[i]? := by
  rw [← Array.foldl_toList, Array.toList_zipIdx, fold_at off B.toList 0 cs i]
  simp
theorem fold_part (A Z B C : List Nat) (h : Z.length = B.length) : ((ncells B).zipIdx).foldl (fun cs (p : Value × Nat) => cs.setIfInBounds (A.length + p.2) p.1) (ncells (A ++ Z ++ C)) = ncells (A ++ B ++ C) := by
  apply Array.ext_getElem?
  intro i
  rw [fold_cells, nsize, nsize]
  simp only [ncells, List.getElem?_toArray, List.getElem?_map, List.length_append]
  by_cases h1 : i < A.length
  · rw [if_neg (by omega), List.append_assoc, List.append_assoc, List.getElem?_append_left h1, List.getElem?_append_left h1]
  · by_cases h2 : i < A.length + B.length
    · rw [if_pos (by omega), List.append_assoc A B C, List.getElem?_append_right (l₁ := A) (by omega), List.getElem?_append_left (l₁ := B) (by omega)]
    · rw [if_neg (by omega), List.getElem?_append_right (l₁ := A ++ Z) (by simp; omega), List.getElem?_append_right (l₁ := A ++ B) (by simp; omega)]
      simp only [List.length_append, h]
theorem agg_cells (C : Array Value) : (Value.agg C).cells = C := rfl
/-- A slot's parts, put together. -/
theorem build41 (A B C : List Nat) (hA : A.length = 32) (hB : B.length = 32) (hC : C.length = 40) (w : World) : (Instr.build 41 #[(0, .agg (ncells A)), (1, .agg (ncells B)), (2, .agg (ncells C))]).run Tryd.prog w = .ok (.agg (ncells (A ++ B ++ C))) w := by
  apply run_build
  have hp : Tryd.prog.built 41 [(0, .agg (ncells A)), (1, .agg (ncells B)), (2, .agg (ncells C))] = Instr.fill (#[(0, 32), (32, 32), (64, 40)][·]?) (ncells (zeros 104)) [(0, .agg (ncells A)), (1, .agg (ncells B)), (2, .agg (ncells C))] := by kernel_rfl
  show Tryd.prog.built 41 [(0, .agg (ncells A)), (1, .agg (ncells B)), (2, .agg (ncells C))] = _
  rw [hp]
  unfold Instr.fill
  simp only [List.getElem?_toArray, List.getElem?_cons_zero, agg_cells, nsize, hA, zeros_len]
  rw [if_neg (by simp)]
  have e1 := fold_part [] (zeros 32) A (zeros 72) (by rw [hA, zeros_len])
  rw [List.nil_append, List.nil_append, zeros_add] at e1
  rw [show (fun (cs : Array Value) (x : Value × Nat) => match x with | (c, j) => cs.setIfInBounds (0 + j) c) = fun cs (p : Value × Nat) => cs.setIfInBounds (([] : List Nat).length + p.2) p.1 from rfl, show (104 : Nat) = 32 + 72 from rfl, e1]
  unfold Instr.fill
  simp only [List.getElem?_cons_zero, List.getElem?_cons_succ, agg_cells, nsize, hA, hB, zeros_len, List.length_append]
  rw [if_neg (by simp)]
  have e2 := fold_part A (zeros 32) B (zeros 40) (by rw [hB, zeros_len])
  rw [List.append_assoc, zeros_add] at e2
  rw [show (fun (cs : Array Value) (x : Value × Nat) => match x with | (c, j) => cs.setIfInBounds (32 + j) c) = fun cs (p : Value × Nat) => cs.setIfInBounds (A.length + p.2) p.1 from by rw [hA], show (72 : Nat) = 32 + 40 from rfl, e2]
  unfold Instr.fill
  simp only [List.getElem?_cons_zero, List.getElem?_cons_succ, agg_cells, nsize, hA, hB, hC, zeros_len, List.length_append]
  rw [if_neg (by simp)]
  have e3 := fold_part (A ++ B) (zeros 40) C [] (by rw [hC, zeros_len])
  rw [List.append_nil, List.append_nil] at e3
  rw [show (fun (cs : Array Value) (x : Value × Nat) => match x with | (c, j) => cs.setIfInBounds (64 + j) c) = fun cs (p : Value × Nat) => cs.setIfInBounds ((A ++ B).length + p.2) p.1 from by rw [List.length_append, hA, hB], e3]
  rfl
/-- A part of a row. -/
theorem range_mid {W : World} {g : Nat} {t : TypeId} (A B C : List Nat) (n : Nat) (hA : A.length = n) (h : W.heap[g]? = some (.cells (ncells (A ++ B ++ C)) t (0, 0))) : W.rangeAt g n (ncells B).toList := fun j v hv => by
  have hj : j < B.length := by
    rcases Nat.lt_or_ge j B.length with h4 | h4
    · exact h4
    · rw [List.getElem?_eq_none (by simp [ncells]; omega)] at hv; cases hv
  rw [cell_of_row _ _ _ _ _ _ h, ← hv]
  simp only [ncells, List.getElem?_toArray, List.getElem?_map]
  rw [List.append_assoc, List.getElem?_append_right (by omega), List.getElem?_append_left (by omega), show n + j - A.length = j by omega]
theorem sees_mid {W : World} {g : Nat} {t : TypeId} (A B C : List Nat) (n m : Nat) (hA : A.length = n) (hB : ae.Bts m B) (hm : 0 < m ∧ m ≤ 1000) (h : W.heap[g]? = some (.cells (ncells (A ++ B ++ C)) t (0, 0))) : ae.Sees W (.slice (some ⟨g, n, none⟩) m m) B := by
  refine ⟨hB.2, .inr (.inr ⟨g, n, m, by rw [hB.1], ?_, by rw [hB.1]; exact Nat.le_refl _, by unfold maxLen; omega, fun i hi => ?_⟩)⟩
  · intro e; have := hB.1; rw [e] at this; simp at this; omega
  · have := range_mid A B C n hA h i (.int .u8 (at_ B i : Nat)) (by
      have := ncell B i hi
      simpa [at_] using this)
    exact this
end Go.Proofs.YtpkeofioobmmoaaDoor
