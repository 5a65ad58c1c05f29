/-
  Rows of the call's own read as keys and as values. Condition: the keys are numbers of 64 digits.
-/
import Derived.Test.YtnifaldgofmciaaNdN
namespace Go.Proofs.Ytnifaldgofmciaa
open Go.RowKit
theorem ks_own {w : World} {C n : Nat} {v : Value} {ks : List Int} (h : w.ownsRow C 52 1 v n (ks.map (Value.int .u64))) (hk : ∀ k ∈ ks, 0 ≤ k ∧ k ≤ 18446744073709551615) (hm : n ≤ 9223372036854775807) : KS w v ks := by
  have hl : ks.length = n := by have := h.1; simpa using this
  refine ⟨hk, by omega, ?_⟩
  obtain ⟨_, ⟨rfl, h0⟩ | ⟨g, cap, cur, rfl, _, hg, _⟩⟩ := id h
  · have hn : ks = [] := List.length_eq_zero_iff.1 (by omega)
    subst hn
    exact ⟨none, 0, rfl, fun i hi => absurd hi (Nat.not_lt_zero _)⟩
  · refine ⟨some ⟨g, 0, none⟩, cap, by rw [hl], fun i hi => ⟨g, 0, rfl, (Array.getElem?_eq_some_iff.1 hg).1, ?_⟩⟩
    have := h.cells (g := g) rfl i (.int .u64 (ks.getD i 0)) (by rw [List.getElem?_map, getD_at 0 hi]; rfl)
    rw [add_plain] at this
    exact this
theorem flat_at {α : Type} (f : α → List Value) (e : Nat) : ∀ (xs : List α), (∀ x ∈ xs, (f x).length = e) → ∀ (i : Nat) (y : α), xs[i]? = some y → ∀ (j : Nat) (u : Value), (f y)[j]? = some u → (xs.flatMap f)[i * e + j]? = some u
  | [], _, i, y, hi, _, _, _ => by simp at hi
  | x :: xs, hf, 0, y, hi, j, u, hj => by
    have hxy : x = y := by simpa using hi
    subst hxy
    rw [List.flatMap_cons, Nat.zero_mul, Nat.zero_add, List.getElem?_append_left (List.getElem?_eq_some_iff.1 hj).1]
    exact hj
  | x :: xs, hf, i + 1, y, hi, j, u, hj => by
    have hx := hf x (by simp)
    rw [List.flatMap_cons, List.getElem?_append_right (by rw [hx, Nat.add_mul]; omega), hx, show (i + 1) * e + j - e = i * e + j by rw [Nat.add_mul]; omega]
    exact flat_at f e xs (fun z hz => hf z (by simp [hz])) i y (by simpa using hi) j u hj
theorem es_own {α : Type} {f : α → List Value} {e n C : Nat} {ty : TypeId} {w : World} {v : Value} {xs : List α} (h : w.ownsRow C ty e v n (xs.flatMap f)) (hf : ∀ x ∈ xs, (f x).length = e) (hl : xs.length = n) (hm : n ≤ 9223372036854775807) : ES f e w v xs := by
  refine ⟨by omega, hf, ?_⟩
  obtain ⟨_, ⟨rfl, h0⟩ | ⟨g, cap, cur, rfl, _, hg, _⟩⟩ := id h
  · have hn : xs = [] := List.length_eq_zero_iff.1 (by omega)
    subst hn
    exact ⟨none, 0, rfl, fun i y hi => by simp at hi⟩
  · refine ⟨some ⟨g, 0, none⟩, cap, by rw [hl], fun i y hi => ⟨g, 0, rfl, (Array.getElem?_eq_some_iff.1 hg).1, fun j u hj => ?_⟩⟩
    have := h.cells (g := g) rfl (i * e + j) u (flat_at f e xs hf i y hi j u hj)
    rw [add_plain] at this
    rw [Nat.zero_add] at this ⊢
    exact this
end Go.Proofs.Ytnifaldgofmciaa
