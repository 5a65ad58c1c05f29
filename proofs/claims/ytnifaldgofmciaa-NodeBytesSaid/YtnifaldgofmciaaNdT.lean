/-
  What must come of fixed calls of package node: the fixed node, its bytes, and what they tell. No condition.
-/
import Derived.Test.YtnifaldgofmciaaNdS
namespace Go.Proofs.Ytnifaldgofmciaa
open Go.RowKit
open oc (Byt Sees be nth)
/-- The fixed value. -/
def v1 : List Int := 1 :: List.replicate 43 0
/-- The fixed node. -/
def n0 : NV := ⟨true, [7], [v1], []⟩
set_option maxRecDepth 100000 in
theorem n0_read : rdN (nB n0) = n0 := by kernel_rfl
set_option maxRecDepth 100000 in
theorem n0_is : isN (nB n0) = true := by kernel_rfl
theorem n0_wrV : wrV n0 = nB n0 := by kernel_rfl
theorem n0_wrE : wrE n0 = 0 := by kernel_rfl
theorem nz_wrE : wrE nz = 3 := by kernel_rfl
theorem n0_len : (nB n0).length = 512 := by kernel_rfl
theorem n0_at : nth (nB n0) 0 = 1 ∧ nth (nB n0) 1 = 1 ∧ nth (nB n0) 15 = 7 ∧ nth (nB n0) 16 = 1 := ⟨by kernel_rfl, by kernel_rfl, by kernel_rfl, by kernel_rfl⟩
theorem n0_find {i : Nat} {th : Bool} (h : FindP n0.ks 8 i th) : i = 1 ∧ th = false := by
  obtain ⟨h1, h2, h3, h4⟩ := h
  have e : n0.ks = [7] := rfl
  rw [e] at h1 h2 h3 h4
  cases th with
  | true =>
    obtain ⟨a, b⟩ := h3 rfl
    have : i = 0 := by simpa using a
    subst this
    exact absurd b (by decide)
  | false =>
    have h5 := h4 rfl
    refine ⟨?_, rfl⟩
    have : i ≤ 1 := h1
    by_cases h0 : i = 0
    · subst h0
      exact absurd (h5 0 (Nat.le_refl _) (by decide)) (by decide)
    · omega
theorem n0_same : sameB n0 n0 = true := by simp [sameB]
theorem n0_rises : risesB n0.ks = true := by kernel_rfl
set_option maxRecDepth 100000 in
theorem bs22 (w : World) : (Instr.buildSlice 22 1 #[(0, .int .u64 7)]).run Try.prog w = .ok (.slice (some ⟨w.heap.size, 0, none⟩) 1 1) (w.alloc (.cells #[.int .u64 7] 52)) := by kernel_rfl
set_option maxRecDepth 100000 in
theorem b54v (w : World) : (Instr.build 54 #[(0, .int .u8 1)]).run Try.prog w = .ok (.agg (val v1).toArray) w := by kernel_rfl
set_option maxRecDepth 100000 in
theorem bs23v (w : World) : (Instr.buildSlice 23 1 #[(0, .agg (val v1).toArray)]).run Try.prog w = .ok (.slice (some ⟨w.heap.size, 0, none⟩) 1 1) (w.alloc (.cells (val v1).toArray 54)) := by kernel_rfl
set_option maxRecDepth 100000 in
theorem b26n (a b : Nat) (w : World) : (Instr.build 26 #[(0, .bool true), (1, .slice (some ⟨a, 0, none⟩) 1 1), (2, .slice (some ⟨b, 0, none⟩) 1 1)]).run Try.prog w = .ok (.agg #[.bool true, .slice (some ⟨a, 0, none⟩) 1 1, .slice (some ⟨b, 0, none⟩) 1 1, .slice none 0 0]) w := by kernel_rfl
theorem wpList_bs {ops : Array Oper} {rest : List Oper} {o : Oper} {a : Act} {w : World} {Q : Exit → Act → World → Prop} (hgd : o.guard = none) (t n : Nat) (x : Operand) (ho : o.op = .buildSlice t n #[(0, x)]) {u v' : Value} {w' : World}
    (hx : a.eval x = u) (hr : (Instr.buildSlice t n #[(0, u)]).run Try.prog w = .ok v' w') (h : wpList Try.prog ops Q rest (a.put o.dst v') w') : wpList Try.prog ops Q (o :: rest) a w := by
  refine wpList_plain hgd fun K hK => ?_
  unfold Oper.wp execOp
  simp only [ho, Sem.run_bind, Sem.run_pure, Result.andThen_ok, List.map_toArray, List.map_cons, List.map_nil, hx, hr]
  exact hK _ _ h
/-- The fixed node in memory. -/
theorem nd_n0 {w : World} {g h : Nat} {t u : TypeId} {fr gr : Nat × Nat} (hg : w.heap[g]? = some (.cells #[.int .u64 7] t fr)) (hh : w.heap[h]? = some (.cells (val v1).toArray u gr)) :
    ND w (.agg #[.bool true, .slice (some ⟨g, 0, none⟩) 1 1, .slice (some ⟨h, 0, none⟩) 1 1, .slice none 0 0]) n0 := by
  have k1 : ∀ k ∈ n0.ks, 0 ≤ k ∧ k ≤ 18446744073709551615 := by
    intro k hk
    have : k = 7 := by simpa [n0] using hk
    subst this; decide
  have k2 : ∀ x ∈ n0.vs, (val x).length = 44 := by
    intro x hx
    have : x = v1 := by simpa [n0] using hx
    subst this; simp [val, v1]
  have k3 : ∀ x ∈ n0.qs, (kid x).length = 33 := by
    intro x hx
    simp [n0] at hx
  refine ⟨_, _, _, rfl, ⟨k1, by decide, some ⟨g, 0, none⟩, 1, rfl, fun i hi => ⟨g, 0, rfl, (Array.getElem?_eq_some_iff.1 hg).1, ?_⟩⟩,
    ⟨by decide, k2, some ⟨h, 0, none⟩, 1, rfl, fun i y hi => ⟨h, 0, rfl, (Array.getElem?_eq_some_iff.1 hh).1, ?_⟩⟩,
    ⟨by decide, k3, none, 0, rfl, fun i y hi => by simp [n0] at hi⟩, ?_, by intro p hp; simp [n0] at hp⟩
  · have : i = 0 := by have : i < 1 := hi; omega
    subst this
    rw [cell_row hg]
    rfl
  · have : i = 0 := by
      have : i < [v1].length := (List.getElem?_eq_some_iff.1 hi).1
      simp at this; exact this
    subst this
    have : v1 = y := by simpa [n0] using hi
    subst this
    intro j v hj
    rw [show (0 + 0 * 44 + j) = j by omega, cell_row hh]
    simpa using hj
  · intro z hz
    have : z = v1 := by simpa [n0] using hz
    subst this
    refine ⟨fun x hx => ?_, by simp [v1]⟩
    rcases List.mem_cons.1 hx with rfl | hx
    · decide
    · rw [List.eq_of_mem_replicate hx]; decide
/-- The same where a guard is met. -/
theorem wpList_wanted {ops : Array Oper} {rest : List Oper} {o : Oper} {a : Act} {w : World} {Q : Exit → Act → World → Prop} (hw : Region.wanted o (yielded ops a.tmps) = true)
    (h : ∀ K : Act → World → Prop, (∀ a w, wpList Try.prog ops Q rest a w → K a w) → o.wp Try.prog a w K Q) : wpList Try.prog ops Q (o :: rest) a w :=
  wpList_step fun K hK => by rw [if_pos hw]; exact h K hK
theorem wpList_load_met {ops : Array Oper} {rest : List Oper} {o : Oper} {a : Act} {w : World} {Q : Exit → Act → World → Prop} (hw : Region.wanted o (yielded ops a.tmps) = true) (ty : TypeId) (x : Operand) (ho : o.op = .load ty x)
    (g : Nat) (hx : a.eval x = .pointer (some ⟨g, 0, none⟩)) (t : TypeId) (cs : Array Value) (fr : Nat × Nat) (d : TypeDesc) (hg : w.heap[g]? = some (.cells cs t fr))
    (hu : Try.prog.underlying ty = some d) (hd : ∃ fs, d = .struct fs) (hi : (Try.prog.info? ty).map (·.size) = some cs.size)
    (h : wpList Try.prog ops Q rest (a.put o.dst (.agg cs)) w) : wpList Try.prog ops Q (o :: rest) a w := by
  obtain ⟨fs, rfl⟩ := hd
  exact wpList_wanted hw fun _ hK => wp_load_row ty x ho g hx t cs fr _ hg hu rfl hi (hK _ _ h)
theorem Sees_cell {w : World} {g o n c : Nat} {xs : List Int} (h : Sees w (.slice (some ⟨g, o, none⟩) n c) xs) (i : Nat) (hi : i < xs.length) : w.cell? ⟨g, o + i, none⟩ = some (.int .u8 (nth xs i)) := by
  obtain ⟨_, ⟨h1, _⟩ | ⟨a, c', h1, h2, _⟩ | ⟨b, o', c', h1, _, _, _, h2⟩⟩ := h
  · simp at h1
  · subst h2; simp at hi
  · simp only [Value.slice.injEq, Option.some.injEq, Addr.mk.injEq] at h1
    obtain ⟨⟨rfl, rfl, _⟩, _, rfl⟩ := h1
    exact h2 i hi
theorem Sees_block {w : World} {v : Value} {xs : List Int} (h : Sees w v xs) (hl : xs.length = 512) : ∃ g o c, v = .slice (some ⟨g, o, none⟩) 512 c := by
  obtain ⟨_, ⟨_, rfl⟩ | ⟨a, c', _, rfl, _⟩ | ⟨b, o', c', rfl, _, _, _, _⟩⟩ := h
  · simp at hl
  · simp at hl
  · exact ⟨b, o', c', by rw [hl]⟩
theorem wpList_build1 {ops : Array Oper} {rest : List Oper} {o : Oper} {a : Act} {w : World} {Q : Exit → Act → World → Prop} (hgd : o.guard = none) (t : TypeId) (i : Nat) (x : Operand)
    (ho : o.op = .build t #[(i, x)]) {u v : Value} (hx : a.eval x = u)
    (hr : (Instr.build t #[(i, u)]).run Try.prog w = .ok v w) (h : wpList Try.prog ops Q rest (a.put o.dst v) w) : wpList Try.prog ops Q (o :: rest) a w := by
  refine wpList_plain hgd fun K hK => ?_
  unfold Oper.wp execOp
  simp only [ho, Sem.run_bind, Sem.run_pure, Result.andThen_ok, List.map_toArray, List.map_cons, List.map_nil, hx, hr]
  exact hK _ _ h
theorem wpList_build3 {ops : Array Oper} {rest : List Oper} {o : Oper} {a : Act} {w : World} {Q : Exit → Act → World → Prop} (hgd : o.guard = none) (t : TypeId) (i j k : Nat) (x y z : Operand)
    (ho : o.op = .build t #[(i, x), (j, y), (k, z)]) {x' y' z' v : Value} (hx : a.eval x = x') (hy : a.eval y = y') (hz : a.eval z = z')
    (hr : (Instr.build t #[(i, x'), (j, y'), (k, z')]).run Try.prog w = .ok v w) (h : wpList Try.prog ops Q rest (a.put o.dst v) w) : wpList Try.prog ops Q (o :: rest) a w := by
  refine wpList_plain hgd fun K hK => ?_
  unfold Oper.wp execOp
  simp only [ho, Sem.run_bind, Sem.run_pure, Result.andThen_ok, List.map_toArray, List.map_cons, List.map_nil, hx, hy, hz, hr]
  exact hK _ _ h
end Go.Proofs.Ytnifaldgofmciaa
