/-
  Contracts of node.whole and of the statements' Great. Condition: the value reads as a node.
-/
import Derived.Test.YtnifaldgofmciaaNdF
namespace Go.Proofs.Ytnifaldgofmciaa
open Go.RowKit
theorem KS.len {w : World} {v : Value} {ks : List Int} (h : KS w v ks) : ∃ x c, v = .slice x ks.length c := by obtain ⟨_, _, x, c, e, _⟩ := h; exact ⟨x, c, e⟩
theorem ES.len {α : Type} {f : α → List Value} {e : Nat} {w : World} {v : Value} {xs : List α} (h : ES f e w v xs) : ∃ x c, v = .slice x xs.length c := by obtain ⟨_, _, x, c, e, _⟩ := h; exact ⟨x, c, e⟩
/-- Does something belong to each key? -/
def wholeB (n : NV) : Bool := decide (n.ks.length ≤ if n.leaf then n.vs.length else n.qs.length)
set_option maxRecDepth 100000 in
set_option maxHeartbeats 4000000 in
theorem whole (v : Value) (n : NV) (w : World) (hv : ND w v n) : Calls Try.prog 37 #[v] w fun e w' => e = .returned (.bool (wholeB n)) ∧ Below w.heap.size w w' := by
  obtain ⟨K, V, Q, rfl, h1, h2, h3, _, _⟩ := hv
  obtain ⟨xk, ck, rfl⟩ := h1.len
  obtain ⟨xv, cv, rfl⟩ := h2.len
  obtain ⟨xq, cq, rfl⟩ := h3.len
  clear h1 h2 h3
  obtain ⟨w1, hw1⟩ : ∃ w1, w1 = w.alloc (.cells #[.bool n.leaf, .slice xk n.ks.length ck, .slice xv n.vs.length cv, .slice xq n.qs.length cq] 26) := ⟨_, rfl⟩
  have b1 : Below w.heap.size w w1 := by rw [hw1]; exact (Below.refl _ _).alloc (Nat.le_refl _) _
  have e1 : w1.heap[w.heap.size]? = some (.cells #[.bool n.leaf, .slice xk n.ks.length ck, .slice xv n.vs.length cv, .slice xq n.qs.length cq] 26 (0, 0)) := by rw [hw1]; exact heap_alloc_new w _
  have LG1 : Hid (w.heap.size < w1.heap.size) := (Array.getElem?_eq_some_iff.1 e1).1
  have c0 := (cell_row e1 0).trans (show (#[Value.bool n.leaf, .slice xk n.ks.length ck, .slice xv n.vs.length cv, .slice xq n.qs.length cq] : Array Value)[0]? = some (.bool n.leaf) from rfl)
  have c1 := (cell_row e1 1).trans (show (#[Value.bool n.leaf, .slice xk n.ks.length ck, .slice xv n.vs.length cv, .slice xq n.qs.length cq] : Array Value)[1]? = some (.slice xk n.ks.length ck) from rfl)
  have c2 := (cell_row e1 2).trans (show (#[Value.bool n.leaf, .slice xk n.ks.length ck, .slice xv n.vs.length cv, .slice xq n.qs.length cq] : Array Value)[2]? = some (.slice xv n.vs.length cv) from rfl)
  have c3 := (cell_row e1 3).trans (show (#[Value.bool n.leaf, .slice xk n.ks.length ck, .slice xv n.vs.length cv, .slice xq n.qs.length cq] : Array Value)[3]? = some (.slice xq n.qs.length cq) from rfl)
  have B1 := Lib.hid b1
  have HW1 := Lib.hid hw1
  clear b1 e1 hw1
  obtain ⟨lf, hlf⟩ : ∃ lf, lf = n.leaf := ⟨_, rfl⟩
  obtain ⟨a, ha⟩ : ∃ a, a = n.ks.length := ⟨_, rfl⟩
  obtain ⟨b, hb⟩ : ∃ b, b = n.vs.length := ⟨_, rfl⟩
  obtain ⟨c, hc⟩ : ∃ c, c = n.qs.length := ⟨_, rfl⟩
  have WB : Hid (wholeB n = decide (a ≤ if lf then b else c)) := by show _ = _; rw [hlf, ha, hb, hc]; rfl
  rw [← hlf, ← ha, ← hb, ← hc] at HW1 ⊢
  rw [← hlf] at c0
  rw [← ha] at c1
  rw [← hb] at c2
  rw [← hc] at c3
  clear hlf ha hb hc
  cases lf with
  | true =>
    by_cases h : a ≤ b
    · have hi : (a : Int) ≤ (b : Int) := by omega
      have W : Hid (wholeB n = true) := by show _ = _; rw [WB.out]; exact decide_eq_true h
      clear h
      go_enter Try.func37, Try.ntmps37
      go_wp2_with fail
      rw [← HW1.out]
      go_wp2_with fail
      go_ret
      exact ⟨by rw [W.out]; rfl, B1.out⟩
    · have hi : ¬ (a : Int) ≤ (b : Int) := by omega
      have W : Hid (wholeB n = false) := by show _ = _; rw [WB.out]; exact decide_eq_false h
      clear h
      go_enter Try.func37, Try.ntmps37
      go_wp2_with fail
      rw [← HW1.out]
      go_wp2_with fail
      go_ret
      exact ⟨by rw [W.out]; rfl, B1.out⟩
  | false =>
    by_cases h : a ≤ c
    · have hi : (a : Int) ≤ (c : Int) := by omega
      have W : Hid (wholeB n = true) := by show _ = _; rw [WB.out]; exact decide_eq_true h
      clear h
      go_enter Try.func37, Try.ntmps37
      go_wp2_with fail
      rw [← HW1.out]
      go_wp2_with fail
      go_ret
      exact ⟨by rw [W.out]; rfl, B1.out⟩
    · have hi : ¬ (a : Int) ≤ (c : Int) := by omega
      have W : Hid (wholeB n = false) := by show _ = _; rw [WB.out]; exact decide_eq_false h
      clear h
      go_enter Try.func37, Try.ntmps37
      go_wp2_with fail
      rw [← HW1.out]
      go_wp2_with fail
      go_ret
      exact ⟨by rw [W.out]; rfl, B1.out⟩
/-- Has a node too much for a statement? -/
def greatB (n : NV) : Bool := decide (30 < n.ks.length) || (decide (30 < n.vs.length) || decide (30 < n.qs.length))
set_option maxRecDepth 100000 in
set_option maxHeartbeats 4000000 in
theorem great (v : Value) (n : NV) (w : World) (hv : ND w v n) : Calls Try.prog 7 #[v] w fun e w' => e = .returned (.bool (greatB n)) ∧ Below w.heap.size w w' := by
  obtain ⟨K, V, Q, rfl, h1, h2, h3, _, _⟩ := hv
  obtain ⟨xk, ck, rfl⟩ := h1.len
  obtain ⟨xv, cv, rfl⟩ := h2.len
  obtain ⟨xq, cq, rfl⟩ := h3.len
  clear h1 h2 h3
  obtain ⟨w1, hw1⟩ : ∃ w1, w1 = w.alloc (.cells #[.bool n.leaf, .slice xk n.ks.length ck, .slice xv n.vs.length cv, .slice xq n.qs.length cq] 26) := ⟨_, rfl⟩
  have b1 : Below w.heap.size w w1 := by rw [hw1]; exact (Below.refl _ _).alloc (Nat.le_refl _) _
  have e1 : w1.heap[w.heap.size]? = some (.cells #[.bool n.leaf, .slice xk n.ks.length ck, .slice xv n.vs.length cv, .slice xq n.qs.length cq] 26 (0, 0)) := by rw [hw1]; exact heap_alloc_new w _
  have LG1 : Hid (w.heap.size < w1.heap.size) := (Array.getElem?_eq_some_iff.1 e1).1
  have c0 := (cell_row e1 0).trans (show (#[Value.bool n.leaf, .slice xk n.ks.length ck, .slice xv n.vs.length cv, .slice xq n.qs.length cq] : Array Value)[0]? = some (.bool n.leaf) from rfl)
  have c1 := (cell_row e1 1).trans (show (#[Value.bool n.leaf, .slice xk n.ks.length ck, .slice xv n.vs.length cv, .slice xq n.qs.length cq] : Array Value)[1]? = some (.slice xk n.ks.length ck) from rfl)
  have c2 := (cell_row e1 2).trans (show (#[Value.bool n.leaf, .slice xk n.ks.length ck, .slice xv n.vs.length cv, .slice xq n.qs.length cq] : Array Value)[2]? = some (.slice xv n.vs.length cv) from rfl)
  have c3 := (cell_row e1 3).trans (show (#[Value.bool n.leaf, .slice xk n.ks.length ck, .slice xv n.vs.length cv, .slice xq n.qs.length cq] : Array Value)[3]? = some (.slice xq n.qs.length cq) from rfl)
  have B1 := Lib.hid b1
  have HW1 := Lib.hid hw1
  clear b1 e1 hw1
  obtain ⟨lf, hlf⟩ : ∃ lf, lf = n.leaf := ⟨_, rfl⟩
  obtain ⟨a, ha⟩ : ∃ a, a = n.ks.length := ⟨_, rfl⟩
  obtain ⟨b, hb⟩ : ∃ b, b = n.vs.length := ⟨_, rfl⟩
  obtain ⟨c, hc⟩ : ∃ c, c = n.qs.length := ⟨_, rfl⟩
  have WB : Hid (greatB n = (decide (30 < a) || (decide (30 < b) || decide (30 < c)))) := by show _ = _; rw [ha, hb, hc]; rfl
  rw [← hlf, ← ha, ← hb, ← hc] at HW1 ⊢
  rw [← hlf] at c0
  rw [← ha] at c1
  rw [← hb] at c2
  rw [← hc] at c3
  clear hlf ha hb hc
  by_cases h1 : (30 : Int) < (a : Int)
  · skip
    have W : Hid (greatB n = true) := by show _ = _; rw [WB.out]; simp; omega
    go_enter Try.func7, Try.ntmps7
    go_wp2_with fail
    rw [← HW1.out]
    go_wp2_with fail
    go_ret
    exact ⟨by rw [W.out]; rfl, B1.out⟩
  · by_cases h2 : (30 : Int) < (b : Int)
    · skip
      have W : Hid (greatB n = true) := by show _ = _; rw [WB.out]; simp; omega
      go_enter Try.func7, Try.ntmps7
      go_wp2_with fail
      rw [← HW1.out]
      go_wp2_with fail
      go_ret
      exact ⟨by rw [W.out]; rfl, B1.out⟩
    · by_cases h3 : (30 : Int) < (c : Int)
      · skip
        have W : Hid (greatB n = true) := by show _ = _; rw [WB.out]; simp; omega
        go_enter Try.func7, Try.ntmps7
        go_wp2_with fail
        rw [← HW1.out]
        go_wp2_with fail
        go_ret
        exact ⟨by rw [W.out]; rfl, B1.out⟩
      · skip
        have W : Hid (greatB n = false) := by show _ = _; rw [WB.out]; simp; omega
        go_enter Try.func7, Try.ntmps7
        go_wp2_with fail
        rw [← HW1.out]
        go_wp2_with fail
        go_ret
        exact ⟨by rw [W.out]; rfl, B1.out⟩
end Go.Proofs.Ytnifaldgofmciaa
