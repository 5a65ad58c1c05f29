/-
  What waits of a sector, what flushes and crashes make of it. Condition: none.
-/
import Derived.Test.YtklhnibmpdaioaaPL
namespace Go.Proofs.Ytklhnibmpdaioaa.pv
open Go.RowKit
/-- The bytes of a sector's writes, in order. -/
def wk (k : Nat) (ws : List (Nat × Nat)) : List Nat := (ws.filter (fun a => decide (a.1 = k))).map (fun a => a.2)
theorem wk_app (k s y : Nat) (ws : List (Nat × Nat)) : wk k (ws ++ [(s, y)]) = if k = s then wk k ws ++ [y] else wk k ws := by
  unfold wk
  rw [List.filter_append, List.map_append]
  by_cases h : k = s
  · rw [if_pos h]; simp [h]
  · have h2 : ¬ s = k := fun e => h e.symm
    rw [if_neg h]; simp [h2]
theorem wk_take_len (k : Nat) (ws : List (Nat × Nat)) : (wk k ws).length ≤ ws.length := by
  unfold wk; rw [List.length_map]; exact List.length_filter_le _ _
theorem lastW_wk (k : Nat) (ws : List (Nat × Nat)) : lastW k ws = (wk k ws).getLast? := by
  have key : ∀ n, lastW k (ws.take n) = (wk k (ws.take n)).getLast? := by
    intro n
    induction n with
    | zero => simp [lastW, wk]
    | succ n ih =>
      by_cases hn : n < ws.length
      · rw [List.take_succ_eq_append_getElem hn]
        obtain ⟨⟨s, y⟩, e⟩ : ∃ t, ws[n] = t := ⟨_, rfl⟩
        rw [e, lastW_app, wk_app, ih]
        by_cases h : k = s
        · rw [if_pos h, if_pos h.symm]; simp
        · rw [if_neg h, if_neg (fun e => h e.symm)]
      · rw [List.take_of_length_le (by omega)] at ih ⊢
        exact ih
  have := key ws.length
  rwa [List.take_length] at this
theorem keepS_all (su : Nat → Option Nat) (ws : List (Nat × Nat)) (k : Nat) : ∀ n, n ≤ ws.length → keepS (fun _ => true) su ws n k = match lastW k (ws.take n) with | some y => some y | none => su k
  | 0, _ => by simp [keepS, lastW]
  | n + 1, h => by
    have hn : n < ws.length := by omega
    rw [List.take_succ_eq_append_getElem hn]
    obtain ⟨⟨s, y⟩, e⟩ : ∃ t, ws[n] = t := ⟨_, rfl⟩
    have e' : ws[n]? = some (s, y) := by rw [List.getElem?_eq_getElem hn, e]
    rw [e, lastW_app]
    have ih := keepS_all su ws k n (by omega)
    show (match ws[n]? with | some (a, y) => if true = true ∧ a = k then some y else keepS (fun _ => true) su ws n k | none => keepS (fun _ => true) su ws n k) = _
    rw [e']
    by_cases h : s = k
    · rw [if_pos h]; simp [h]
    · rw [if_neg h]; simp [h, ih]
theorem allS_get (su : Nat → Option Nat) (ws : List (Nat × Nat)) (k : Nat) : allS su ws k = match (wk k ws).getLast? with | some y => some y | none => su k := by
  unfold allS
  rw [keepS_all su ws k _ (Nat.le_refl _), List.take_length, lastW_wk]
theorem keepS_mem (f : Nat → Bool) (su : Nat → Option Nat) (ws : List (Nat × Nat)) (k : Nat) : ∀ n, keepS f su ws n k = su k ∨ ∃ y ∈ wk k ws, keepS f su ws n k = some y
  | 0 => .inl rfl
  | n + 1 => by
    have ih := keepS_mem f su ws k n
    show ((match ws[n]? with | some (a, y) => if f n = true ∧ a = k then some y else keepS f su ws n k | none => keepS f su ws n k) = _) ∨ ∃ z ∈ wk k ws, (match ws[n]? with | some (a, y) => if f n = true ∧ a = k then some y else keepS f su ws n k | none => keepS f su ws n k) = some z
    cases e : ws[n]? with
    | none => exact ih
    | some t =>
      obtain ⟨a, y⟩ := t
      by_cases h : f n = true ∧ a = k
      · refine .inr ⟨y, ?_, if_pos h⟩
        unfold wk
        rw [List.mem_map]
        refine ⟨(a, y), ?_, rfl⟩
        rw [List.mem_filter]
        exact ⟨List.mem_of_getElem? e, by simp [h.2]⟩
      · simp only [if_neg h]
        exact ih
end Go.Proofs.Ytklhnibmpdaioaa.pv
