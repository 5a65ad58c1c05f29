/-
  Nodes in memory; contract of node.Same. Condition: the values read as nodes.
-/
import Derived.Test.YtnifaldgofmciaaNdD
namespace Go.Proofs.Ytnifaldgofmciaa
open Go.RowKit
/-- A node as it reads. -/
structure NV where
  leaf : Bool
  ks : List Int
  vs : List (List Int)
  qs : List (Int × List Int)
theorem KS.form {w : World} {v : Value} {ks : List Int} (h : KS w v ks) : ∃ x n c, v = .slice x n c := by obtain ⟨_, _, x, c, e, _⟩ := h; exact ⟨x, _, c, e⟩
theorem ES.form {α : Type} {f : α → List Value} {e : Nat} {w : World} {v : Value} {xs : List α} (h : ES f e w v xs) : ∃ x n c, v = .slice x n c := by obtain ⟨_, _, x, c, e, _⟩ := h; exact ⟨x, _, c, e⟩
/-- The value v reads, in w, as the node n. -/
def ND (w : World) (v : Value) (n : NV) : Prop :=
  ∃ K V Q, v = .agg #[.bool n.leaf, K, V, Q] ∧ KS w K n.ks ∧ ES val 44 w V n.vs ∧ ES kid 33 w Q n.qs ∧ (∀ z ∈ n.vs, (∀ x ∈ z, 0 ≤ x ∧ x ≤ 255) ∧ z.length = 44) ∧ (∀ p ∈ n.qs, (∀ x ∈ p.2, 0 ≤ x ∧ x ≤ 255) ∧ p.2.length = 32)
theorem ND.below {w w' : World} {v : Value} {n : NV} (h : ND w v n) (hb : Below w.heap.size w w') : ND w' v n := by
  obtain ⟨K, V, Q, e, h1, h2, h3, h4, h5⟩ := h
  exact ⟨K, V, Q, e, h1.below hb, h2.below hb, h3.below hb, h4, h5⟩
/-- Are two nodes equal? -/
def sameB (n m : NV) : Bool := decide (n.leaf = m.leaf) && (decide (n.ks = m.ks) && (decide (n.vs = m.vs) && decide (n.qs = m.qs)))
set_option maxRecDepth 100000 in
set_option maxHeartbeats 8000000 in
theorem same (v u : Value) (n m : NV) (w : World) (hv : ND w v n) (hu : ND w u m) : Calls Try.prog 18 #[v, u] w fun e w' => e = .returned (.bool (sameB n m)) ∧ Below w.heap.size w w' := by
  obtain ⟨K, V, Q, rfl, h1, h2, h3, h4, h5⟩ := hv
  obtain ⟨K', V', Q', rfl, h1', h2', h3', h4', h5'⟩ := hu
  obtain ⟨w1, hw1⟩ : ∃ w1, w1 = (w.alloc (.cells #[.bool n.leaf, K, V, Q] 26)).alloc (.cells #[.bool m.leaf, K', V', Q'] 26) := ⟨_, rfl⟩
  have b1 : Below w.heap.size w w1 := by rw [hw1]; exact ((Below.refl _ _).alloc (Nat.le_refl _) _).alloc (by simp) _
  have e1 : w1.heap[w.heap.size]? = some (.cells #[.bool n.leaf, K, V, Q] 26 (0, 0)) := by rw [hw1, Below.heap_alloc _ _ _ (by simp)]; exact heap_alloc_new w _
  have e2 : w1.heap[w.heap.size + 1]? = some (.cells #[.bool m.leaf, K', V', Q'] 26 (0, 0)) := by
    rw [hw1]
    have := heap_alloc_new (w.alloc (.cells #[.bool n.leaf, K, V, Q] 26)) (.cells #[.bool m.leaf, K', V', Q'] 26)
    simpa using this
  have LG1 : Hid (w.heap.size < w1.heap.size) := (Array.getElem?_eq_some_iff.1 e1).1
  have LG2 : Hid (w.heap.size + 1 < w1.heap.size) := (Array.getElem?_eq_some_iff.1 e2).1
  have C0 : Hid (w1.cell? ⟨w.heap.size, 0, none⟩ = some (.bool n.leaf)) := (cell_row e1 0).trans rfl
  have C1 : Hid (w1.cell? ⟨w.heap.size, 1, none⟩ = some K) := (cell_row e1 1).trans rfl
  have C2 : Hid (w1.cell? ⟨w.heap.size, 2, none⟩ = some V) := (cell_row e1 2).trans rfl
  have C3 : Hid (w1.cell? ⟨w.heap.size, 3, none⟩ = some Q) := (cell_row e1 3).trans rfl
  have D0 : Hid (w1.cell? ⟨w.heap.size + 1, 0, none⟩ = some (.bool m.leaf)) := (cell_row e2 0).trans rfl
  have D1 : Hid (w1.cell? ⟨w.heap.size + 1, 1, none⟩ = some K') := (cell_row e2 1).trans rfl
  have D2 : Hid (w1.cell? ⟨w.heap.size + 1, 2, none⟩ = some V') := (cell_row e2 2).trans rfl
  have D3 : Hid (w1.cell? ⟨w.heap.size + 1, 3, none⟩ = some Q') := (cell_row e2 3).trans rfl
  have EK := Lib.hid (equalK K K' n.ks m.ks w1 (h1.below b1) (h1'.below b1))
  have EV := Lib.hid (fun (W : World) (hb : Below w1.heap.size w1 W) => equalV val V V' n.vs m.vs W ((h2.below b1).below hb) ((h2'.below b1).below hb) (fun x hx y hy W => valEq x y (h4 x hx).1 (h4' y hy).1 (h4 x hx).2 (h4' y hy).2 W))
  have EQ := Lib.hid (fun (W : World) (hb : Below w1.heap.size w1 W) => equalQ Q Q' n.qs m.qs W ((h3.below b1).below hb) ((h3'.below b1).below hb) ⟨h5, h5'⟩)
  have B1 := Lib.hid b1
  have HW1 := Lib.hid hw1
  have SB : Hid (sameB n m = (decide (n.leaf = m.leaf) && (decide (n.ks = m.ks) && (decide (n.vs = m.vs) && decide (n.qs = m.qs))))) := rfl
  have FK := h1.form
  have FV := h2.form
  have FQ := h3.form
  have FK' := h1'.form
  have FV' := h2'.form
  have FQ' := h3'.form
  obtain ⟨xk, lk, ck, rfl⟩ := FK
  obtain ⟨xv, lv, cv, rfl⟩ := FV
  obtain ⟨xq, lq, cq, rfl⟩ := FQ
  obtain ⟨xk', lk', ck', rfl⟩ := FK'
  obtain ⟨xv', lv', cv', rfl⟩ := FV'
  obtain ⟨xq', lq', cq', rfl⟩ := FQ'
  obtain ⟨nl, hnl⟩ : ∃ nl, nl = n.leaf := ⟨_, rfl⟩
  obtain ⟨ml, hml⟩ : ∃ ml, ml = m.leaf := ⟨_, rfl⟩
  rw [← hnl] at C0 HW1 SB ⊢
  rw [← hml] at D0 HW1 SB ⊢
  obtain ⟨bk, hbk⟩ : ∃ bk, bk = decide (n.ks = m.ks) := ⟨_, rfl⟩
  obtain ⟨bv, hbv⟩ : ∃ bv, bv = decide (n.vs = m.vs) := ⟨_, rfl⟩
  obtain ⟨bq, hbq⟩ : ∃ bq, bq = decide (n.qs = m.qs) := ⟨_, rfl⟩
  rw [← hbk] at EK SB
  rw [← hbv] at EV SB
  rw [← hbq] at EQ SB
  clear h1 h2 h3 h4 h5 h1' h2' h3' h4' h5' b1 e1 e2 hw1 hnl hml hbk hbv hbq
  have c0 := C0.out
  have d0 := D0.out
  have c1 := C1.out
  have d1 := D1.out
  by_cases hl : nl = ml
  · subst hl
    have lb : (nl == nl) = true := by simp
    rw [decide_eq_true (rfl : nl = nl), Bool.true_and] at SB
    go_enter Try.func18, Try.ntmps18
    go_wp2_with fail
    rw [← HW1.out]
    go_wp2_with fail
    refine EK.out.mono ?_
    rintro e w2 ⟨rfl, hb2⟩
    have B2 := Lib.hid hb2
    have c2 := (hb2.cell (p := ⟨w.heap.size, 2, none⟩) LG1.out).trans C2.out
    have d2 := (hb2.cell (p := ⟨w.heap.size + 1, 2, none⟩) LG2.out).trans D2.out
    clear hb2 c0 d0 c1 d1
    cases bk with
    | false =>
      go_wp2_with fail
      go_ret
      exact ⟨by rw [SB.out]; rfl, B1.out.trans (B2.out.mono B1.out.size)⟩
    | true =>
      go_wp2_with fail
      refine (EV.out _ B2.out).mono ?_
      rintro e w3 ⟨rfl, hb3⟩
      have B3 := Lib.hid (B2.out.trans (hb3.mono B2.out.size))
      have c3 := (B3.out.cell (p := ⟨w.heap.size, 3, none⟩) LG1.out).trans C3.out
      have d3 := (B3.out.cell (p := ⟨w.heap.size + 1, 3, none⟩) LG2.out).trans D3.out
      clear hb3 c2 d2
      cases bv with
      | false =>
        go_wp2_with fail
        go_ret
        exact ⟨by rw [SB.out]; rfl, B1.out.trans (B3.out.mono B1.out.size)⟩
      | true =>
        go_wp2_with fail
        refine (EQ.out _ B3.out).mono ?_
        rintro e w4 ⟨rfl, hb4⟩
        have B4 := Lib.hid (B3.out.trans (hb4.mono B3.out.size))
        clear hb4 c3 d3
        go_wp2_with fail
        go_ret
        exact ⟨by rw [SB.out]; cases bq <;> rfl, B1.out.trans (B4.out.mono B1.out.size)⟩
  · have lb : (nl == ml) = false := by simpa using hl
    rw [decide_eq_false hl, Bool.false_and] at SB
    go_enter Try.func18, Try.ntmps18
    go_wp2_with fail
    rw [← HW1.out]
    go_wp2_with fail
    go_ret
    exact ⟨by rw [SB.out]; rfl, B1.out⟩
end Go.Proofs.Ytnifaldgofmciaa
