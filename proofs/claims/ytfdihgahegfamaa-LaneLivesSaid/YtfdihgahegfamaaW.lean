/-
  The walk of a body that holds a select with a default, in one goroutine: the kit's walk, held at one ordinary frame, and a rule for the region that begins with the select. Condition: none.
-/
import Derived.Test.YtfdihgahegfamaaL
import Derived.Conc.LoneSelect
import Derived.Conc.LoneSelectN
namespace Go.Proofs.Ytfdihgahegfamaa
open Go.RowKit Go.Conc
/-- The walk at the frame b. -/
def wpB (P : Program) (b : Frame) (c : Code) (Q : Exit → Act → World → Prop) (a : Act) (w : World) : Prop :=
  ∀ (k : List Item) (cs : List Frame), ∃ e a' w', Q e a' w' ∧ Arrives P (lone (b.at a (.code c :: k)) cs w) b k cs e a' w'
section
variable {P : Program} {b : Frame} {Q : Exit → Act → World → Prop} {a : Act} {w : World} {c x y : Code}
theorem wpB_of (h : c.wp P Q a w) : wpB P b c Q a w := fun k cs => h b k cs
theorem wpB_mono {Q' : Exit → Act → World → Prop} (h : wpB P b c Q a w) (hq : ∀ e a w, Q e a w → Q' e a w) : wpB P b c Q' a w := fun k cs => by
  obtain ⟨e, a', w', q, r⟩ := h k cs
  exact ⟨e, a', w', hq _ _ _ q, r⟩
theorem arr_plain {m : Machine} {i : Item} (hi : i.plain = true) {e : Exit} {k : List Item} {cs : List Frame} (he : e ≠ .normal) (h : Arrives P m b (i :: k) cs e a w) : Arrives P m b k cs e a w :=
  Arrives.pass hi (fun _ _ => .inl he) h
theorem wpB_seq (h : wpB P b x (Exit.then (fun a w => wpB P b y Q a w) Q) a w) : wpB P b (.seq x y) Q a w := by
  intro k cs
  obtain ⟨e, a1, w1, hq, har⟩ := h (.code y :: k) cs
  by_cases he : e = .normal
  · subst he
    obtain ⟨e2, a2, w2, q2, r2⟩ := hq k cs
    exact ⟨e2, a2, w2, q2, .of_steps (.head step_seq har) r2⟩
  · refine ⟨e, a1, w1, ?_, .of_steps (.one step_seq) (arr_plain (i := .code y) rfl he har)⟩
    cases e <;> first | exact absurd rfl he | exact hq
/-- The first part is walked as ever. -/
theorem wpB_seq_k (h : ∀ K : Act → World → Prop, (∀ a w, wpB P b y Q a w → K a w) → x.wp P (Exit.then K Q) a w) : wpB P b (.seq x y) Q a w :=
  wpB_seq (wpB_of (h _ fun _ _ h => h))
theorem wpB_seq_b (h : ∀ K : Act → World → Prop, (∀ a w, wpB P b y Q a w → K a w) → wpB P b x (Exit.then K Q) a w) : wpB P b (.seq x y) Q a w :=
  wpB_seq (h _ fun _ _ h => h)
theorem wpB_cond {t : Operand} {v : Bool} (hc : a.eval t = .bool v) (h : wpB P b (if v then x else y) Q a w) : wpB P b (.cond t x y) Q a w := fun k cs => by
  obtain ⟨e, a', w', q, r⟩ := h k cs
  exact ⟨e, a', w', q, .of_steps (.one (step_cond hc)) r⟩
theorem wpB_block {id : Nat} (h : wpB P b c (Exit.inBlock id Q) a w) : wpB P b (.block id c) Q a w := by
  intro k cs
  obtain ⟨e, a1, w1, hq, har⟩ := h (.inBlock id :: k) cs
  cases e with
  | normal => exact ⟨.normal, a1, w1, hq, .head step_block (Steps.trans har (.one step_inBlock))⟩
  | exit i =>
    by_cases hi : i = id
    · simp only [Exit.inBlock, hi, if_true] at hq
      exact ⟨.normal, a1, w1, hq, .head step_block (har k (by simp [exitTo, hi]))⟩
    · simp only [Exit.inBlock, hi, if_false] at hq
      refine ⟨.exit i, a1, w1, hq, fun k' hk => .head step_block (har k' ?_)⟩
      have h2 : (id == i) = false := by simp; exact fun h => hi h.symm
      simp [exitTo, h2, hk]
  | goto l => exact ⟨_, a1, w1, hq, fun k' hk => .head step_block (har k' (by simp [gotoIn, hk]))⟩
  | ret => exact ⟨_, a1, w1, hq, .of_steps (.one step_block) har⟩
  | panic ch => exact ⟨_, a1, w1, hq, .of_steps (.one step_block) har⟩
  | outgrown => exact ⟨_, a1, w1, hq, .of_steps (b := b) (k := k) (cs := cs) (e := .outgrown) (.one step_block) har⟩
theorem wpB_loop (I : Act → World → Nat → Prop) (n : Nat) (h0 : I a w n) (round : ∀ a w n, I a w n → wpB P b c (Exit.then (fun a' w' => ∃ m, m < n ∧ I a' w' m) Q) a w) : wpB P b (.loop c) Q a w := by
  intro k cs
  have key : ∀ n a w, I a w n → ∃ e a' w', Q e a' w' ∧ Arrives P (lone (b.at a (.code c :: .inLoop c :: k)) cs w) b k cs e a' w' := by
    intro n
    induction n using Nat.strongRecOn with
    | _ n ih =>
      intro a w hI
      obtain ⟨e, a1, w1, hq, har⟩ := round a w n hI (.inLoop c :: k) cs
      by_cases he : e = .normal
      · subst he
        obtain ⟨m, hm, hI2⟩ := hq
        obtain ⟨e2, a2, w2, q2, r2⟩ := ih m hm a1 w1 hI2
        exact ⟨e2, a2, w2, q2, .of_steps (Steps.trans har (.one step_inLoop)) r2⟩
      · refine ⟨e, a1, w1, ?_, arr_plain (i := .inLoop c) rfl he har⟩
        cases e <;> first | exact absurd rfl he | exact hq
  obtain ⟨e, a', w', q, r⟩ := key n a w h0
  exact ⟨e, a', w', q, .of_steps (.one step_loop) r⟩
/-- A region whose first operation is a select that the machine of one takes in one step, whatever the frame. -/
theorem wpB_select {id : Nat} {o : Oper} {l : List Oper} {v : Value} {w' : World}
    (hs : ∀ (k : List Item) (cs : List Frame), step P (lone (b.at a (.inRegion (o :: l).toArray (0 :: List.range' 1 l.length) :: k)) cs w) = .next (lone ((b.at a (.inRegion (o :: l).toArray (0 :: List.range' 1 l.length) :: k)).finish v) cs w'))
    (h : wpList P (o :: l).toArray Q l (a.put o.dst v) w') : wpB P b (.region id (o :: l).toArray false) Q a w := by
  intro k cs
  have h2 : wpOps P (o :: l).toArray Q (List.range' 1 l.length) (a.put o.dst v) w' := by
    rw [wpOps_eq_wpList l 1 (fun j => by simp [Nat.add_comm 1 j])]
    exact h
  obtain ⟨e, a', w2, q, r⟩ := wp_ops _ _ _ h2 b k cs
  have hr : List.range ((o :: l).toArray).size = 0 :: List.range' 1 l.length := by
    rw [List.range_eq_range']; simp [List.range'_succ]
  have s1 : step P (lone (b.at a (.code (.region id (o :: l).toArray false) :: k)) cs w) = .next (lone (b.at a (.inRegion (o :: l).toArray (0 :: List.range' 1 l.length) :: k)) cs w) := by
    rw [← hr]; exact step_region
  have s2 := hs k cs
  rw [Frame.finish_at] at s2
  exact ⟨e, a', w2, q, .of_steps (.head s1 (.one s2)) r⟩
end
/-- From the walk at an ordinary frame to the call. -/
theorem calls_of_wpB {P : Program} {f : FuncId} {fn : Func} {c : Code} {args : Array Value} {w : World} {R : Ending → World → Prop} (hf : P.funcs[f]? = some fn) (hb : fn.body = some c) (hno : ∀ w, ¬ R .outgrown w)
    (h : ∀ b : Frame, b.kind = .normal → b.fn = f → wpB P b c (bodyPost P fn R) { tmps := args ++ Array.replicate (fn.ntmps - args.size) undef, defers := [] } w) : Calls P f args w R := by
  intro cs
  obtain ⟨b, hbd⟩ : ∃ b : Frame, b = { (default : Frame) with fn := f, kind := .normal } := ⟨_, rfl⟩
  have hk : b.kind = .normal := by rw [hbd]
  have hfn : b.fn = f := by rw [hbd]
  have hent : Frame.enter P f args .normal = b.at { tmps := args ++ Array.replicate (fn.ntmps - args.size) undef, defers := [] } [.code c] := by
    simp [Frame.enter, Frame.at, hf, hb, hbd]
  obtain ⟨e, a', w', hq, har⟩ := h b hk hfn [] cs
  rw [← hent] at har
  have hlf : ∀ (todo : List Item) (m : FrameMode), ({ b.at a' todo with mode := m } : Frame).fn = f := fun _ _ => hfn
  cases e with
  | normal =>
    obtain ⟨hd, v, hr, hR⟩ := hq
    exact ⟨.returned v, w', _, hR, Steps.trans har (.one step_end), hfn, rfl, hd, hk, fn, by rw [hlf]; exact hf, hr⟩
  | ret =>
    obtain ⟨hd, v, hr, hR⟩ := hq
    obtain ⟨todo, hs⟩ := har
    exact ⟨.returned v, w', _, hR, hs, hfn, rfl, hd, hk, fn, by rw [hlf]; exact hf, hr⟩
  | panic chain =>
    obtain ⟨hd, hR⟩ := hq
    obtain ⟨todo, hs⟩ := har
    exact ⟨.panicked chain, w', _, hR, hs, hfn, rfl, hd, fn, by rw [hlf]; exact hf⟩
  | outgrown => exact absurd hq (hno w')
  | exit id => exact hq.elim
  | goto l => exact hq.elim
end Go.Proofs.Ytfdihgahegfamaa
