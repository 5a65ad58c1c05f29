/-
  Slices of texts that came in; contracts: texts, one behind the other; are texts too much? Condition: the slices read as texts.
-/
import Derived.Test.YtboaceabimlodaaDoorRefE
import Derived.Test.YtboaceabimlodaaDoorLaid
import Derived.Deep.Matrix
namespace Go.Proofs.YtboaceabimlodaaDoor
open Go.RowKit Go.WideShapes Go.ChangeAt
/-- The slice v reads, in w, as texts, however many. -/
def SeesM (w : World) (v : Value) (xss : List (List Int)) : Prop :=
  (∃ x cap, v = .slice x 0 cap ∧ xss = []) ∨ ∃ b o cap, v = .slice (some ⟨b, o, none⟩) xss.length cap ∧ xss ≠ [] ∧ xss.length ≤ maxLen ∧ xss.length ≤ cap ∧ ∀ i, i < xss.length → ∃ u, w.cell? ⟨b, o + i, none⟩ = some u ∧ Sees w u (xss.getD i [])
theorem SeesM.few {w : World} {v : Value} {xss : List (List Int)} (h : SeesM w v xss) (hl : xss.length ≤ 1125899906842624) : SeesL w v xss := by
  rcases h with h | ⟨b, o, cap, h1, _, h2, _, h3⟩
  · exact .inl h
  · exact .inr ⟨b, o, cap, h1, hl, h3⟩
theorem cells22 : Tryd.prog.cellsOf 23 = 1 := by kernel_rfl
theorem open_texts {H : Type} {enc : TypeId × Value → H} {w : World} {r : Reach} {b0 base : Nat} {v : Value} {d : DataW H} {ps : List MemPlace}
    (hval : Value.okWide Tryd.prog w r b0 22 v) (hd : DataW.Trod enc Tryd.prog w base (fun _ => true) true 22 v d ps) : ∃ xss, SeesM w v xss := by
  obtain ⟨fuel, hf⟩ := hd
  have hv : ∀ c : Value, v.cells.toList = [c] → (∃ x l k, c = .slice x l k) → v = c := by
    intro c hc ⟨x, l, k, hx⟩
    obtain ⟨x', l', k', rfl⟩ := okWide_slice Tryd.underlying22 hval
    simpa [Value.cells] using hc
  rcases Deep.open_int_rows Tryd.underlying22 Tryd.underlying23 Tryd.underlying5 cells22 cells5 hf with ⟨hc, _⟩ | ⟨a, len, cap, A, L, C, Z, hc, _, hl, hm, _, hcell⟩
  · exact ⟨[], .inl ⟨_, _, hv _ hc ⟨_, _, _, rfl⟩, rfl⟩⟩
  · have hvv := hv _ hc ⟨_, _, _, rfl⟩
    subst hvv
    by_cases h0 : len = 0
    · subst h0; exact ⟨[], .inl ⟨_, _, rfl, rfl⟩⟩
    · have hplain : ∃ b o, a = ⟨b, o, none⟩ ∧ ∀ i, a.add i = ⟨b, o + i, none⟩ := by
        obtain ⟨b, o, spot⟩ := a
        have hspot : spot = none := by simpa [Addr.add] using World.cell?_spot (hcell 0 (by omega)).1
        subst hspot
        exact ⟨b, o, rfl, fun i => addr_add b o i⟩
      obtain ⟨b, o, rfl, hadd⟩ := hplain
      refine ⟨(List.range len).map fun r => (Z r).take (L r), .inr ⟨b, o, cap, by simp, ?_, by simp; omega, by simpa using hl, fun i hi => ?_⟩⟩
      · intro e
        have := congrArg List.length e
        simp at this; omega
      · simp only [List.length_map, List.length_range] at hi
        obtain ⟨e1, e2, e3, e4, e5, e6, e7⟩ := hcell i (by omega)
        rw [hadd] at e1
        refine ⟨_, e1, ?_⟩
        have hg : ((List.range len).map fun r => (Z r).take (L r)).getD i [] = (Z i).take (L i) := by simp [List.getD, hi]
        rw [hg]
        have hb : Byt ((Z i).take (L i)) := fun x hx => bounds_u8 (e5 x (List.mem_of_mem_take hx))
        refine ⟨hb, ?_⟩
        have hlz : ((Z i).take (L i)).length = L i := by rw [List.length_take]; omega
        cases hA : A i with
        | none =>
          have hC := e6 hA
          have : L i = 0 := by omega
          exact .inl ⟨by rw [this, hC], by rw [this, List.take_zero]⟩
        | some a' =>
          by_cases hL0 : L i = 0
          · exact .inr (.inl ⟨a', C i, by rw [hL0], by rw [hL0, List.take_zero], e3⟩)
          · obtain ⟨_, hc'⟩ := e7 a' hA
            obtain ⟨b', o', rfl, h2⟩ := ints_at (zs := Z i) (fun c hc => hc' c (by omega)) (by omega)
            refine .inr (.inr ⟨b', o', C i, by rw [hlz], fun e => hL0 (by rw [← hlz, e]; rfl), by omega, e3, fun j hj => ?_⟩)
            rw [hlz] at hj
            rw [h2 j (by omega)]
            simp [nth, List.getD, List.getElem?_take_of_lt hj]
/-- Are texts too much? -/
def greatB (xss : List (List Int)) : Bool := decide (12 < xss.length) || xss.any fun x => decide (400 < x.length)
theorem greatB_no {xss : List (List Int)} (h : greatB xss = false) : xss.length ≤ 12 ∧ ∀ i, i < xss.length → (xss.getD i []).length ≤ 400 := by
  unfold greatB at h
  rw [Bool.or_eq_false_iff] at h
  refine ⟨by have := of_decide_eq_false h.1; omega, fun i hi => ?_⟩
  have h2 := List.any_eq_false.1 h.2 xss[i] (List.getElem_mem hi)
  have e : xss.getD i [] = xss[i] := by simp [List.getD, hi]
  rw [e]; simp at h2; omega
theorem greatB_yes {xss : List (List Int)} (i : Nat) (hi : i < xss.length) (h : 400 < (xss.getD i []).length) : greatB xss = true := by
  have e : xss.getD i [] = xss[i] := by simp [List.getD, hi]
  unfold greatB
  rw [Bool.or_eq_true, List.any_eq_true]
  exact .inr ⟨xss[i], List.getElem_mem hi, by rw [← e]; simpa using h⟩
theorem flat_bound : ∀ (xss : List (List Int)), (∀ x ∈ xss, x.length ≤ 400) → xss.flatten.length ≤ 400 * xss.length
  | [], _ => by simp
  | x :: l, h => by
    have h1 := h x (by simp)
    have h2 := flat_bound l (fun y hy => h y (by simp [hy]))
    rw [List.flatten_cons, List.length_append, List.length_cons]; omega
theorem great_flat {xss : List (List Int)} (h : greatB xss = false) : xss.flatten.length ≤ 4800 := by
  obtain ⟨h1, h2⟩ := greatB_no h
  have := flat_bound xss (fun x hx => by
    obtain ⟨i, hi, rfl⟩ := List.getElem_of_mem hx
    have := h2 i hi
    simpa [List.getD, hi] using this)
  omega
end Go.Proofs.YtboaceabimlodaaDoor
