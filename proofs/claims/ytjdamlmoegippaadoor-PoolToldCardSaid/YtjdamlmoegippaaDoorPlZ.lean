/-
  A tenant's number in a play's list is turned to nought. Condition: none.
-/
import Derived.Test.YtjdamlmoegippaaDoorPlU
import Derived.Great.BuildSlice
namespace Go.Proofs.YtjdamlmoegippaaDoor.pl
open Go.RowKit
/-- Rows of type 26 that are the caller's are turned. -/
theorem PW.rows26 {w w' : World} {A : PA} {D : DS} {s : ex.St} {S : Nat → Prop} {T : List (List Int)} (h : PW w A D s S T) (Q : Nat → Prop) (m : dk.Mods Q w w') (hQ : ∀ k, Q k → A.B ≤ k ∧ ¬ S k ∧ ∃ cs, w.heap[k]? = some (.cells cs 26 (0, 0))) : PW w' A D s S T := by
  have nQ : ∀ (k : Nat) (cs' : Array Value) (t : TypeId), w.heap[k]? = some (.cells cs' t (0, 0)) → t ≠ 26 → ¬ Q k := fun k cs' t hk ht hr => by
    obtain ⟨_, _, cs, hc⟩ := hQ k hr
    rw [hc] at hk; injection hk with hk; injection hk with _ hk; exact ht hk.symm
  refine ⟨h.pool.mods m (nQ _ _ _ h.pool.row (by decide)) (nQ _ _ _ h.pool.box (by decide)), ?_, ?_, h.lg.mods (hlm m) (fun b hb e => (hQ b e).2.1 hb), h.gg.mods (hlm m) (fun b e => by have := (hQ b e).1; have := h.bb.1; omega), h.a1, fun k hk => ?_, h.a3, h.a4, fun k hk => ⟨(h.aq k hk).1, Nat.lt_of_lt_of_le (h.aq k hk).2 m.size⟩, h.bb.1, Nat.le_trans h.bb.2 m.size⟩
  · refine dk.pv.DK.to h.dk m (fun b e hd => ?_) (fun b cs' hp hc e => nQ b cs' 5 hc (by decide) e) (fun b hb hp => hp)
    obtain ⟨_, _, cs, hc⟩ := hQ b e
    exact dk.pv.DK.not h.dk hc (by decide) (by decide) hd
  · refine ex.FD.mods h.fd (exm m) (nQ _ _ _ (ex.FD.blk h.fd) (by decide)) (nQ _ _ _ (ex.FD.row h.fd).row (by decide)) (fun e => ?_) (fun e => ?_)
    · obtain ⟨es, c, h1⟩ := (ex.FD.row h.fd).map.isMap
      obtain ⟨_, _, cs, hc⟩ := hQ _ e
      rw [hc] at h1; cases h1
    · obtain ⟨cs', wd, h1, _⟩ := (ex.FD.row h.fd).wds
      exact nQ _ _ _ h1 (by decide) e
  · have q := h.a2 k hk
    have := m.size
    exact ⟨q.1, by omega, q.2.2⟩
/-- Rows of type 3 that are the caller's are turned. -/
theorem PW.rows3 {w w' : World} {A : PA} {D : DS} {s : ex.St} {S : Nat → Prop} {T : List (List Int)} (h : PW w A D s S T) (Q : Nat → Prop) (m : dk.Mods Q w w') (hQ : ∀ k, Q k → A.B ≤ k ∧ ¬ S k ∧ ∃ cs, w.heap[k]? = some (.cells cs 3 (0, 0))) (hgb : ∀ k, Q k → k ≠ A.gb) : PW w' A D s S T := by
  have nQ : ∀ (k : Nat) (cs' : Array Value) (t : TypeId), w.heap[k]? = some (.cells cs' t (0, 0)) → t ≠ 3 → ¬ Q k := fun k cs' t hk ht hr => by
    obtain ⟨_, _, cs, hc⟩ := hQ k hr
    rw [hc] at hk; injection hk with hk; injection hk with _ hk; exact ht hk.symm
  refine ⟨h.pool.mods m (nQ _ _ _ h.pool.row (by decide)) (fun e => hgb _ e rfl), ?_, ?_, h.lg.mods (hlm m) (fun b hb e => (hQ b e).2.1 hb), h.gg.mods (hlm m) (fun b e => by have := (hQ b e).1; have := h.bb.1; omega), h.a1, fun k hk => ?_, h.a3, h.a4, fun k hk => ⟨(h.aq k hk).1, Nat.lt_of_lt_of_le (h.aq k hk).2 m.size⟩, h.bb.1, Nat.le_trans h.bb.2 m.size⟩
  · refine dk.pv.DK.to h.dk m (fun b e hd => ?_) (fun b cs' hp hc e => nQ b cs' 5 hc (by decide) e) (fun b hb hp => hp)
    obtain ⟨_, _, cs, hc⟩ := hQ b e
    exact dk.pv.DK.not h.dk hc (by decide) (by decide) hd
  · refine ex.FD.mods h.fd (exm m) (nQ _ _ _ (ex.FD.blk h.fd) (by decide)) (nQ _ _ _ (ex.FD.row h.fd).row (by decide)) (fun e => ?_) (fun e => ?_)
    · obtain ⟨es, c, h1⟩ := (ex.FD.row h.fd).map.isMap
      obtain ⟨_, _, cs, hc⟩ := hQ _ e
      rw [hc] at h1; cases h1
    · obtain ⟨cs', wd, h1, _⟩ := (ex.FD.row h.fd).wds
      exact nQ _ _ _ h1 (by decide) e
  · have q := h.a2 k hk
    have := m.size
    exact ⟨q.1, by omega, q.2.2⟩
/-- The lists El, Ew, Eb; what was put: F. -/
structure LP (w wr : World) (A : PA) (lo : Nat) (vl vw vb : Value) (El Ew Eb F : List En) (i m : Nat) (D : DS) (s : ex.St) (S : Nat → Prop) (T : List (List Int)) : Prop where
  pw : PW wr { A with q := fun k => vb.ownBlock = some k } D s S T
  jn : JN 20 5 s D.su D.ws F
  l : dk.Rw wr 26 33 vl El.length (flr El)
  wh : dk.Rw wr 3 1 vw Ew.length (flw Ew)
  bs : dk.Rw wr 5 1 vb Eb.length (flb Eb)
  own : ∀ k, (vl.ownBlock = some k ∨ vw.ownBlock = some k ∨ vb.ownBlock = some k) → lo ≤ k ∧ ¬ S k
  los : lo ≤ wr.heap.size ∧ A.B ≤ lo ∧ A.gb < lo
  n : F.length ≤ i
  d : D.d = false ∧ D.pn = -1 ∧ 0 ≤ D.c ∧ D.c ≤ i ∧ D.K ≤ i
  t : T.length ≤ m
  b : Below w.heap.size w wr
section
variable {w wr w' : World} {A : PA} {lo : Nat} {vl vw vb v' : Value} {E El Ew Eb F : List En} {i m : Nat} {D : DS} {s : ex.St} {S : Nat → Prop} {T : List (List Int)}
theorem LS.part (h : LS w wr A lo vl vw vb E F i m D s S T) (hl : lo ≤ wr.heap.size ∧ A.B ≤ lo ∧ A.gb < lo) : LP w wr A lo vl vw vb E E E F i m D s S T :=
  ⟨h.pw, h.jn, h.ml.l, h.ml.wh, h.ml.b, h.ml.own, hl, h.n, h.d, h.t, h.b⟩
theorem LP.below (h : LP w wr A lo vl vw vb El Ew Eb F i m D s S T) (hb : Below wr.heap.size wr w') : LP w w' A lo vl vw vb El Ew Eb F i m D s S T :=
  ⟨h.pw.below hb, h.jn, dk.Rw.mods h.l (dk.Mods.of_below (S := fun _ => False) hb) (fun _ _ => id), dk.Rw.mods h.wh (dk.Mods.of_below (S := fun _ => False) hb) (fun _ _ => id), dk.Rw.mods h.bs (dk.Mods.of_below (S := fun _ => False) hb) (fun _ _ => id), h.own, ⟨Nat.le_trans h.los.1 hb.size, h.los.2⟩, h.n, h.d, h.t, h.b.trans (hb.mono h.b.size)⟩
theorem LP.blw (h : LP w wr A lo vl vw vb El Ew Eb F i m D s S T) (hA : A.B = w.heap.size) {Q : Nat → Prop} (hm : dk.Mods Q wr w') (hQ : ∀ k, Q k → lo ≤ k) : Below w.heap.size w w' :=
  dk.Mods.below h.b hm h.b.size (fun k hk => by have := hQ k hk; have := h.los; omega)
theorem LP.apart (h : LP w wr A lo vl vw vb El Ew Eb F i m D s S T) : (∀ k, vl.ownBlock = some k → vw.ownBlock ≠ some k ∧ vb.ownBlock ≠ some k) ∧ (∀ k, vw.ownBlock = some k → vb.ownBlock ≠ some k) := by
  refine ⟨fun k hk => ?_, fun k hk => ?_⟩
  · obtain ⟨cs, hc⟩ := Rw.row h.l k hk
    exact ⟨h.wh.ty hc (by decide), h.bs.ty hc (by decide)⟩
  · obtain ⟨cs, hc⟩ := Rw.row h.wh k hk
    exact h.bs.ty hc (by decide)
theorem LP.fresh (h : LP w wr A lo vl vw vb El Ew Eb F i m D s S T) : ∀ k, wr.heap.size ≤ k → lo ≤ k ∧ ¬ S k := fun k hk =>
  ⟨Nat.le_trans h.los.1 hk, fun e => by have := h.pw.lg.own k e; omega⟩
theorem LP.addL (h : LP w wr A lo vl vw vb El Ew Eb F i m D s S T) (hA : A.B = w.heap.size) (e : En) (hr : dk.Rw w' 26 33 v' (El.length + 1) (flr El ++ rl e.1 (hl.sha (bI e.2.2)))) (hm : dk.Mods (fun k => vl.ownBlock = some k) wr w') (ho : v'.ownBlock = vl.ownBlock ∨ ∃ k, v'.ownBlock = some k ∧ wr.heap.size ≤ k) : LP w w' A lo v' vw vb (El ++ [e]) Ew Eb F i m D s S T := by
  have ap := h.apart
  refine ⟨h.pw.rows26 _ hm (fun k hk => ⟨by have := (h.own k (.inl hk)).1; have := h.los; show A.B ≤ k; omega, (h.own k (.inl hk)).2, Rw.row h.l k hk⟩), h.jn, ?_, dk.Rw.mods h.wh hm (fun k hk e => (ap.1 k e).1 hk), dk.Rw.mods h.bs hm (fun k hk e => (ap.1 k e).2 hk), fun k hk => ?_, ⟨Nat.le_trans h.los.1 hm.size, h.los.2⟩, h.n, h.d, h.t, h.blw hA hm (fun k hk => (h.own k (.inl hk)).1)⟩
  · rw [List.length_append, flr_push]; exact hr
  · rcases hk with hk | hk
    · rcases ho with ho | ⟨k', h1, h2⟩
      · rw [ho] at hk; exact h.own k (.inl hk)
      · rw [h1] at hk
        obtain rfl := Option.some.inj hk
        exact h.fresh _ h2
    · exact h.own k (.inr hk)
theorem LP.addB (h : LP w wr A lo vl vw vb El Ew Eb F i m D s S T) (hA : A.B = w.heap.size) (e : En) (hr : dk.Rw w' 5 1 v' (Eb.length + 1) (flb Eb ++ [.int .u8 (e.2.2 : Int)])) (hm : dk.Mods (fun k => vb.ownBlock = some k) wr w') (ho : v'.ownBlock = vb.ownBlock ∨ ∃ k, v'.ownBlock = some k ∧ wr.heap.size ≤ k) : LP w w' A lo vl vw v' El Ew (Eb ++ [e]) F i m D s S T := by
  have ap := h.apart
  refine ⟨h.pw.bytes _ (fun k => v'.ownBlock = some k) hm (fun k hk => ⟨hk, (h.own k (.inr (.inr hk))).2, Rw.row h.bs k hk⟩) (fun k hk => ⟨?_, hr.lt k hk⟩), h.jn, dk.Rw.mods h.l hm (fun k hk e => (ap.1 k hk).2 e), dk.Rw.mods h.wh hm (fun k hk e => ap.2 k hk e), ?_, fun k hk => ?_, ⟨Nat.le_trans h.los.1 hm.size, h.los.2⟩, h.n, h.d, h.t, h.blw hA hm (fun k hk => (h.own k (.inr (.inr hk))).1)⟩
  · rcases ho with ho | ⟨k', h1, h2⟩
    · rw [ho] at hk; exact .inl hk
    · rw [h1] at hk
      obtain rfl := Option.some.inj hk
      exact .inr h2
  · rw [List.length_append, flb_push]; exact hr
  · rcases hk with hk | hk | hk
    · exact h.own k (.inl hk)
    · exact h.own k (.inr (.inl hk))
    · rcases ho with ho | ⟨k', h1, h2⟩
      · rw [ho] at hk; exact h.own k (.inr (.inr hk))
      · rw [h1] at hk
        obtain rfl := Option.some.inj hk
        exact h.fresh _ h2
end
end Go.Proofs.YtjdamlmoegippaaDoor.pl
namespace Go.Proofs.YtjdamlmoegippaaDoor.pl
open Go.RowKit
set_option maxRecDepth 100000 in
theorem bs49 (n : Nat) (z : List Int) (hz : z.length = 32) (w : World) : (Instr.buildSlice 49 1 #[(0, .agg (rl n z).toArray)]).run Tryd.prog w = .ok (.slice (some ⟨w.heap.size, 0, none⟩) 1 1) (w.alloc (.cells (rl n z).toArray 26)) := by
  obtain ⟨i, hi, h0, h1, h2⟩ := parts inf26
  rw [zr_rl] at h0
  refine run_buildSlice w 49 26 1 _ _ i _ Tryd.underlying49 hi h0 (by rw [h1]; decide) (by rw [h1]; decide) ?_
  have e : (Array.range (1 * i.size)).map ((Value.agg (rl 0 (List.replicate 32 0)).toArray).cells[· % (Value.agg (rl 0 (List.replicate 32 0)).toArray).cells.size]!) = (rl 0 (List.replicate 32 0)).toArray := by rw [h1]; kernel_rfl
  rw [e]
  have hk : (rl n z).length = 33 := rl_len n hz
  have h0' : (rl 0 (List.replicate 32 0)).length = 33 := rl_len 0 (by simp)
  show Instr.fill _ (rl 0 (List.replicate 32 0)).toArray [(0, Value.agg (rl n z).toArray)] = _
  rw [fill_cons (fun j => some (j * i.size, i.size)) (rl 0 (List.replicate 32 0)) 0 (0 * i.size) i.size _ _ rfl (by rw [h1]; simp [Value.cells, hk]) (by rw [h1]; omega)]
  rw [h1]
  simp [Instr.fill, Value.cells, rl]
theorem bs37 (x : Int) (w : World) : (Instr.buildSlice 37 1 #[(0, .int .u8 x)]).run Tryd.prog w = .ok (.slice (some ⟨w.heap.size, 0, none⟩) 1 1) (w.alloc (.cells #[.int .u8 x] 5)) := by kernel_rfl
end Go.Proofs.YtjdamlmoegippaaDoor.pl
namespace Go.Proofs.YtjdamlmoegippaaDoor.pl
open Go.RowKit
theorem LS.zero {w wr : World} {A : PA} {lo : Nat} {vl vb : Value} {E : List En} {i m : Nat} {D : DS} {s : ex.St} {S : Nat → Prop} {T : List (List Int)} {b o c k n t y : Nat} (h : LS w wr A lo vl (.slice (some ⟨b, o, none⟩) E.length c) vb E (E.set k (n, 0, y)) i m D s S T) (hA : A.B = w.heap.size) (hgb : A.gb < lo ∧ A.B ≤ lo) (hk : E[k]? = some (n, t, y)) :
    LS w (wr.setCell ⟨b, o + k, none⟩ (.int .i64 0)) A lo vl (.slice (some ⟨b, o, none⟩) E.length c) vb (E.set k (n, 0, y)) (E.set k (n, 0, y)) i m D s S T := by
  have hkl : k < E.length := (List.getElem?_eq_some_iff.1 hk).1
  obtain ⟨r, mo⟩ := Rw.set1 h.ml.wh k hkl (.int .i64 0) rfl
  have ow : (Value.slice (some ⟨b, o, none⟩) E.length c).ownBlock = some b := rfl
  have hb := h.ml.own b (.inr (.inl ow))
  obtain ⟨cs, hcs⟩ := Rw.row h.ml.wh b ow
  refine ⟨h.pw.rows3 (fun j => j = b) mo (fun j hj => ?_) (fun j hj => ?_), h.jn, ⟨?_, ?_, ?_, h.ml.own⟩, h.n, h.d, h.t, dk.Mods.below h.b mo h.b.size (fun j hj => ?_)⟩
  · rw [show j = b from hj]
    exact ⟨by show A.B ≤ b; omega, hb.2, cs, hcs⟩
  · rw [show j = b from hj]
    show b ≠ A.gb
    omega
  · rw [flr_drop E k n t y hk, List.length_set]
    exact h.ml.l.mods mo (fun j hj e => by
      rw [show j = b from e] at hj
      exact h.ml.l.ty hcs (by decide) hj)
  · rw [flw_drop, List.length_set]
    exact r
  · rw [flb_drop E k n t y hk, List.length_set]
    exact h.ml.b.mods mo (fun j hj e => by
      rw [show j = b from e] at hj
      exact h.ml.b.ty hcs (by decide) hj)
  · have : j = b := hj
    omega
end Go.Proofs.YtjdamlmoegippaaDoor.pl
