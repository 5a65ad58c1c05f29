/-
  One thing more behind each of a play's three lists. Condition: none.
-/
import Derived.Test.YtjdamlmoegippaaDoorPlQ
namespace Go.Proofs.YtjdamlmoegippaaDoor.pl
open Go.RowKit
theorem PW.nOth3 {w : World} {A : PA} {D : DS} {s : ex.St} {S : Nat → Prop} {T : List (List Int)} {r : Nat} {cs : Array Value} (h : PW w A D s S T) (hr : w.heap[r]? = some (.cells cs 3 (0, 0))) (hS : ¬ S r) : ¬ Oth A D S r := fun hk => by
  rcases hk with hk | hk | hk
  · exact dk.pv.DK.not h.dk hr (by decide) (by decide) hk
  · rcases hk with rfl | rfl | rfl
    · exact row_ne (ex.FD.blk h.fd) hr (by decide) rfl
    · obtain ⟨es, c, h1⟩ := (ex.FD.row h.fd).map.isMap
      rw [hr] at h1; cases h1
    · obtain ⟨cs', wd, h1, _⟩ := (ex.FD.row h.fd).wds
      exact row_ne h1 hr (by decide) rfl
  · exact hS hk
theorem PW.nOth5 {w : World} {A : PA} {D : DS} {s : ex.St} {S : Nat → Prop} {T : List (List Int)} {r : Nat} {cs : Array Value} (h : PW w A D s S T) (hr : w.heap[r]? = some (.cells cs 5 (0, 0))) (hS : ¬ S r) : ¬ Oth A D S r := fun hk => by
  rcases hk with hk | hk | hk
  · exact dk.pv.DK.not h.dk hr (by decide) (by decide) hk
  · rcases hk with rfl | rfl | rfl
    · exact row_ne (ex.FD.blk h.fd) hr (by decide) rfl
    · obtain ⟨es, c, h1⟩ := (ex.FD.row h.fd).map.isMap
      rw [hr] at h1; cases h1
    · obtain ⟨cs', wd, h1, _⟩ := (ex.FD.row h.fd).wds
      exact row_ne h1 hr (by decide) rfl
  · exact hS hk
/-- A list of the caller's own is turned, or made anew; its block of bytes is not the disk's. -/
theorem PW.bytes {w w' : World} {A : PA} {D : DS} {s : ex.St} {S : Nat → Prop} {T : List (List Int)} (h : PW w A D s S T) (Q q' : Nat → Prop) (m : dk.Mods Q w w') (hQ : ∀ k, Q k → A.q k ∧ ¬ S k ∧ ∃ cs, w.heap[k]? = some (.cells cs 5 (0, 0))) (hq : ∀ k, q' k → (A.q k ∨ w.heap.size ≤ k) ∧ k < w'.heap.size) : PW w' { A with q := q' } D s S T := by
  have ne : ∀ (k r : Nat) (cs' : Array Value) (t : TypeId), Q r → w.heap[k]? = some (.cells cs' t (0, 0)) → t ≠ 5 → k ≠ r := fun k r cs' t hr hk ht e => by
    obtain ⟨_, _, cs, hc⟩ := hQ r hr
    rw [e, hc] at hk; injection hk with hk; injection hk with _ hk; exact ht hk.symm
  have nQ : ∀ (k : Nat) (cs' : Array Value) (t : TypeId), w.heap[k]? = some (.cells cs' t (0, 0)) → t ≠ 5 → ¬ Q k := fun k cs' t hk ht hr => ne k k cs' t hr hk ht rfl
  refine ⟨h.pool.mods m (nQ _ _ _ h.pool.row (by decide)) (nQ _ _ _ h.pool.box (by decide)), ?_, ?_, h.lg.mods (hlm m) (fun b hb e => (hQ b e).2.1 hb), h.gg.mods (hlm m) (fun b e => by have := (h.aq b (hQ b e).1).1; have := h.bb.1; omega), h.a1, fun k hk => ?_, h.a3, h.a4, fun k hk => ?_, h.bb.1, Nat.le_trans h.bb.2 m.size⟩
  · refine dk.pv.DK.to h.dk m (fun b e hd => ?_) (fun b cs' hp hc e => hp.2 (hQ b e).1) (fun b hb hp => ⟨hp.1, fun e => ?_⟩)
    · obtain ⟨_, _, cs, hc⟩ := hQ b e
      exact dk.pv.DK.not h.dk hc (by decide) (by decide) hd
    · rcases (hq b e).1 with e | e
      · exact hp.2 e
      · omega
  · refine ex.FD.mods h.fd (exm m) (nQ _ _ _ (ex.FD.blk h.fd) (by decide)) (nQ _ _ _ (ex.FD.row h.fd).row (by decide)) (fun e => ?_) (fun e => ?_)
    · obtain ⟨es, c, h1⟩ := (ex.FD.row h.fd).map.isMap
      obtain ⟨_, _, cs, hc⟩ := hQ _ e
      rw [hc] at h1; cases h1
    · obtain ⟨cs', wd, h1, _⟩ := (ex.FD.row h.fd).wds
      exact nQ _ _ _ h1 (by decide) e
  · have q := h.a2 k hk
    have := m.size
    exact ⟨q.1, by show k < w'.heap.size; omega, q.2.2⟩
  · have q := hq k hk
    refine ⟨?_, q.2⟩
    show A.B ≤ k
    rcases q.1 with e | e
    · exact (h.aq k e).1
    · exact Nat.le_trans h.bb.2 e
theorem Rw.row {w : World} {e sz n : Nat} {v : Value} {xs : List Value} (h : dk.Rw w e sz v n xs) : ∀ k, v.ownBlock = some k → ∃ cs, w.heap[k]? = some (.cells cs e (0, 0)) := by
  intro k hk
  rcases h.2.2 with ⟨rfl, _⟩ | ⟨b, o, cap, cs, rfl, hg, _⟩
  · simp [Value.ownBlock] at hk
  · simp [Value.ownBlock] at hk
    subst hk
    exact ⟨cs, hg⟩
/-- The lists of a play. -/
structure ML (w : World) (lo : Nat) (S : Nat → Prop) (vl vw vb : Value) (E : List En) : Prop where
  l : dk.Rw w 26 33 vl E.length (flr E)
  wh : dk.Rw w 3 1 vw E.length (flw E)
  b : dk.Rw w 5 1 vb E.length (flb E)
  own : ∀ k, (vl.ownBlock = some k ∨ vw.ownBlock = some k ∨ vb.ownBlock = some k) → lo ≤ k ∧ ¬ S k
section
variable {w w' : World} {lo : Nat} {A : PA} {D : DS} {s : ex.St} {S S' Q : Nat → Prop} {T : List (List Int)} {vl vw vb : Value} {E : List En}
theorem ML.nil (w : World) (lo : Nat) (S : Nat → Prop) : ML w lo S (.slice none 0 0) (.slice none 0 0) (.slice none 0 0) [] :=
  ⟨dk.Rw.nil _ _ _, dk.Rw.nil _ _ _, dk.Rw.nil _ _ _, fun k hk => by simp [Value.ownBlock] at hk⟩
theorem ML.lt (h : ML w lo S vl vw vb E) : ∀ k, (vl.ownBlock = some k ∨ vw.ownBlock = some k ∨ vb.ownBlock = some k) → k < w.heap.size := fun k hk => by
  rcases hk with e | e | e
  · exact dk.Rw.lt h.l k e
  · exact dk.Rw.lt h.wh k e
  · exact dk.Rw.lt h.b k e
theorem ML.step (h : ML w lo S vl vw vb E) (hp : PW w A D s S T) (m : dk.Mods (Oth A D S) w w') (hS : ∀ q, S' q → S q ∨ w.heap.size ≤ q) : ML w' lo S' vl vw vb E := by
  refine ⟨dk.Rw.mods h.l m (fun k hk e => ?_), dk.Rw.mods h.wh m (fun k hk e => ?_), dk.Rw.mods h.b m (fun k hk e => ?_), fun k hk => ⟨(h.own k hk).1, fun e => ?_⟩⟩
  · obtain ⟨cs, hc⟩ := Rw.row h.l k hk
    exact hp.nOth hc (h.own k (.inl hk)).2 e
  · obtain ⟨cs, hc⟩ := Rw.row h.wh k hk
    exact hp.nOth3 hc (h.own k (.inr (.inl hk))).2 e
  · obtain ⟨cs, hc⟩ := Rw.row h.b k hk
    exact hp.nOth5 hc (h.own k (.inr (.inr hk))).2 e
  · rcases hS k e with e | e
    · exact (h.own k hk).2 e
    · have := h.lt k hk
      omega
theorem ML.below (h : ML w lo S vl vw vb E) (hb : Below w.heap.size w w') : ML w' lo S vl vw vb E :=
  ⟨dk.Rw.mods h.l (dk.Mods.of_below (S := fun _ => False) hb) (fun _ _ => id), dk.Rw.mods h.wh (dk.Mods.of_below (S := fun _ => False) hb) (fun _ _ => id), dk.Rw.mods h.b (dk.Mods.of_below (S := fun _ => False) hb) (fun _ _ => id), h.own⟩
end
theorem rl32 (e : En) (h : e.2.2 < 256) : (rl e.1 (hl.sha (bI e.2.2))).length = 33 := rl_len _ (hl.sha_len _ (bI_byt h))
theorem flr_at : ∀ (E : List En) (k : Nat) (e : En) (j : Nat), (∀ e, e ∈ E → e.2.2 < 256) → E[k]? = some e → j < 33 → (flr E)[k * 33 + j]? = (rl e.1 (hl.sha (bI e.2.2)))[j]?
  | [], _, _, _, _, h, _ => by simp at h
  | a :: E, 0, e, j, hE, h, hj => by
    obtain rfl : a = e := by simpa using h
    show (List.flatMap _ (a :: E))[_]? = _
    rw [List.flatMap_cons, Nat.zero_mul, Nat.zero_add, List.getElem?_append_left (by rw [rl32 a (hE a List.mem_cons_self)]; exact hj)]
  | a :: E, k + 1, e, j, hE, h, hj => by
    have ih := flr_at E k e j (fun e' h => hE e' (List.mem_cons_of_mem _ h)) (by simpa using h) hj
    have h33 := rl32 a (hE a List.mem_cons_self)
    show (List.flatMap _ (a :: E))[_]? = _
    rw [List.flatMap_cons, List.getElem?_append_right (by rw [h33]; omega), h33, show (k + 1) * 33 + j - 33 = k * 33 + j by omega]
    exact ih
theorem flr_push (E : List En) (e : En) : flr (E ++ [e]) = flr E ++ rl e.1 (hl.sha (bI e.2.2)) := by simp [flr]
theorem flb_push (E : List En) (e : En) : flb (E ++ [e]) = flb E ++ [.int .u8 (e.2.2 : Int)] := by simp [flb]
theorem flr_drop : ∀ (E : List En) (k n t y : Nat), E[k]? = some (n, t, y) → flr (E.set k (n, 0, y)) = flr E
  | [], _, _, _, _, h => by simp at h
  | a :: E, 0, n, t, y, h => by
    obtain rfl : a = (n, t, y) := by simpa using h
    rfl
  | a :: E, k + 1, n, t, y, h => by
    have ih := flr_drop E k n t y (by simpa using h)
    unfold flr at ih ⊢
    rw [List.set_cons_succ, List.flatMap_cons, List.flatMap_cons, ih]
theorem flw_drop (E : List En) (k n y : Nat) : flw (E.set k (n, 0, y)) = (flw E).set k (.int .i64 0) := by
  unfold flw
  rw [List.map_set]
  rfl
theorem flb_drop : ∀ (E : List En) (k n t y : Nat), E[k]? = some (n, t, y) → flb (E.set k (n, 0, y)) = flb E
  | [], _, _, _, _, h => by simp at h
  | a :: E, 0, n, t, y, h => by
    obtain rfl : a = (n, t, y) := by simpa using h
    rfl
  | a :: E, k + 1, n, t, y, h => by
    have ih := flb_drop E k n t y (by simpa using h)
    unfold flb at ih ⊢
    rw [List.set_cons_succ, List.map_cons, List.map_cons, ih]
/-- One number of a row of numbers is turned. -/
theorem Rw.set1 {w : World} {e n : Nat} {b o c : Nat} {xs : List Value} (h : dk.Rw w e 1 (.slice (some ⟨b, o, none⟩) n c) n xs) (k : Nat) (hk : k < n) (u : Value) (hu : u.oneCell' = true) :
    dk.Rw (w.setCell ⟨b, o + k, none⟩ u) e 1 (.slice (some ⟨b, o, none⟩) n c) n (xs.set k u) ∧ dk.Mods (fun j => j = b) w (w.setCell ⟨b, o + k, none⟩ u) := by
  obtain ⟨hl, h1, ⟨hh, _⟩ | ⟨b', o', cap, cs, h2, hg, h3, h4, h5, h6⟩⟩ := h
  · simp at hh
  · simp only [Value.slice.injEq, Option.some.injEq, Addr.mk.injEq] at h2
    obtain ⟨⟨rfl, rfl, _⟩, _, rfl⟩ := h2
    have hg' : (w.setCell ⟨b, o + k, none⟩ u).heap[b]? = some (.cells (cs.setIfInBounds (o + k) u) e (0, 0)) := by
      simp [World.setCell, Array.getElem?_modify, hg]
    refine ⟨⟨by rw [List.length_set]; exact hl, fun v hv => ?_, .inr ⟨b, o, c, _, rfl, hg', by rw [Array.size_setIfInBounds]; exact h3, h4, h5, fun j v hj => ?_⟩⟩, ⟨rfl, rfl, rfl, by simp [World.setCell], fun j _ hj => ?_⟩⟩
    · rcases List.mem_or_eq_of_mem_set hv with hv | rfl
      · exact h1 v hv
      · exact hu
    · by_cases e : k = j
      · subst e
        have hjl := (List.getElem?_eq_some_iff.1 hj).1
        rw [List.length_set] at hjl
        rw [List.getElem?_set_self hjl] at hj
        rw [Array.getElem?_setIfInBounds_self_of_lt (by omega)]
        exact hj
      · rw [List.getElem?_set_ne e] at hj
        rw [Array.getElem?_setIfInBounds_ne (by omega)]
        exact h6 j v hj
    · simp only [World.setCell, Array.getElem?_modify]
      rw [if_neg (Ne.symm hj)]
end Go.Proofs.YtjdamlmoegippaaDoor.pl
namespace Go.Proofs.YtjdamlmoegippaaDoor.pl
open Go.RowKit
/-- A pool with a play's lists, after some rounds: E the lists, F what was put. -/
structure LS (w wr : World) (A : PA) (lo : Nat) (vl vw vb : Value) (E F : List En) (i m : Nat) (D : DS) (s : ex.St) (S : Nat → Prop) (T : List (List Int)) : Prop where
  pw : PW wr { A with q := fun k => vb.ownBlock = some k } D s S T
  jn : JN 20 5 s D.su D.ws F
  ml : ML wr lo S vl vw vb E
  n : F.length ≤ i
  d : D.d = false ∧ D.pn = -1 ∧ 0 ≤ D.c ∧ D.c ≤ i ∧ D.K ≤ i
  t : T.length ≤ m
  b : Below w.heap.size w wr
section
variable {w wr w' : World} {A : PA} {lo : Nat} {vl vw vb : Value} {E F : List En} {i m : Nat} {D : DS} {s : ex.St} {S : Nat → Prop} {T : List (List Int)}
theorem LS.below (h : LS w wr A lo vl vw vb E F i m D s S T) (hb : Below wr.heap.size wr w') : LS w w' A lo vl vw vb E F i m D s S T :=
  ⟨h.pw.below hb, h.jn, h.ml.below hb, h.n, h.d, h.t, h.b.trans (hb.mono h.b.size)⟩
theorem LS.more {i' m' : Nat} (h : LS w wr A lo vl vw vb E F i m D s S T) (hi : i ≤ i') (hm : m ≤ m') : LS w wr A lo vl vw vb E F i' m' D s S T :=
  ⟨h.pw, h.jn, h.ml, Nat.le_trans h.n hi, ⟨h.d.1, h.d.2.1, h.d.2.2.1, by have := h.d.2.2.2.1; omega, by have := h.d.2.2.2.2; omega⟩, Nat.le_trans h.t hm, h.b⟩
/-- A Put that goes through. -/
theorem LS.put (h : LS w wr A lo vl vw vb E E i m D s S T) (hA : A.ct = 20 ∧ A.fr = 5 ∧ A.N = 25 ∧ A.B = w.heap.size) (t : Int) (b y : Nat) (hv : dk.TX wr (.slice (some ⟨b, 0, none⟩) 512 512) (dk.tx y)) (hy : y < 256) (hvS : ¬ S b) (htk : (ex.sTak 20 s t).1 = 0) (hi : i ≤ 60) (hm : m ≤ 99999) :
    Calls Tryd.prog 7 #[.pointer (some ⟨A.p, 0, none⟩), .int .i64 t, .slice (some ⟨b, 0, none⟩) 512 512] wr fun e w' => ∃ (k : Nat) (D' : DS) (s' : ex.St) (S' : Nat → Prop) (T' : List (List Int)), t = (k : Int) ∧ 1 ≤ k ∧
      e = .returned (.tuple #[.agg (rl (ex.fst s.f 20) (hl.sha (bI y))).toArray, .int .i64 0]) ∧ LS w w' A lo vl vw vb E (E ++ [(ex.fst s.f 20, k, y)]) (i + 1) (m + 1) D' s' S' T' ∧ (∀ q, S' q → S q ∨ wr.heap.size ≤ q) ∧ dk.Mods (Oth A D S) wr w' := by
  have hfd : ex.FS wr A.gf A.rb A.mb A.wb A.ct s := h.pw.fd
  rw [hA.1] at hfd
  obtain ⟨k, hk, h1, h8, hin, hx, hlt, h0, h2⟩ := tak_told hfd htk
  obtain ⟨d1, d2, d3, d4, d5⟩ := h.d
  have ht := h.t
  refine (put_ok h.pw t _ y hv (dk.yb y) (fun q hq => by cases hq; exact hvS) (by show (ex.sTak A.ct s t).1 = 0; rw [hA.1]; exact htk) (ex.fst s.f 20) (by show ex.xTak A.ct s t = _; rw [hA.1]; exact hx) (by show _ < A.ct; rw [hA.1]; exact hlt) d1 d2 d3 (by omega) (by omega) (by show A.fr + A.ct ≤ A.N; rw [hA.1, hA.2.1, hA.2.2.1]; omega) (by omega)).mono fun e w' hq => ?_
  obtain ⟨wv', S', he, hw, hS, hm'⟩ := hq
  have hst : (ex.sTak A.ct s t).2 = ⟨ex.upd s.f (ex.fst s.f 20) (s.f (ex.fst s.f 20) + 1), ex.addT s.T k 1⟩ := by rw [hA.1]; exact h2
  have hw' : PW w' { A with q := fun k => vb.ownBlock = some k } ⟨wv', D.su, D.ws ++ [(A.fr + ex.fst s.f 20, y)], D.rg, D.c + 1, -1, false, D.K + 1⟩ (ex.sTak A.ct s t).2 S' (hl.addT T (bI y)) := hw
  rw [hst] at hw'
  refine ⟨k, _, _, S', _, hk, h1, he, ⟨hw', ?_, h.ml.step h.pw hm' hS, ?_, ⟨rfl, rfl, ?_, ?_, ?_⟩, ?_, ?_⟩, hS, hm'⟩
  · show JN 20 5 _ D.su (D.ws ++ [(A.fr + ex.fst s.f 20, y)]) _
    rw [hA.2.1]
    exact h.jn.put _ k y hlt h8 hy hin h0
  · have := h.n
    rw [List.length_append]
    show E.length + 1 ≤ i + 1
    omega
  · show 0 ≤ D.c + 1
    omega
  · show D.c + 1 ≤ ((i + 1 : Nat) : Int)
    omega
  · show D.K + 1 ≤ i + 1
    omega
  · have := addT_len T (bI y)
    omega
  · have hb := h.pw.fram (w0 := w) (by show Below A.B w wr; rw [hA.2.2.2]; exact h.b) hm' (fun _ h => h)
    have hb' : Below A.B w w' := hb
    rw [hA.2.2.2] at hb'
    exact hb'
/-- A Drop of an extent that is held. -/
theorem LS.drop (h : LS w wr A lo vl vw vb E E i m D s S T) (hA : A.ct = 20 ∧ A.fr = 5 ∧ A.N = 25 ∧ A.B = w.heap.size) (k n t y : Nat) (hk : E[k]? = some (n, t, y)) (ht : t ≠ 0) :
    Calls Tryd.prog 15 #[.pointer (some ⟨A.gf, 0, none⟩), .int .i64 t, .int .u32 n] wr fun e w' => ∃ s', e = .returned (.int .i64 0) ∧ LS w w' A lo vl vw vb E (E.set k (n, 0, y)) i m D s' S T ∧ dk.Mods (Oth A D S) wr w' := by
  obtain ⟨s', hs, hj, _⟩ := h.jn.drop k n t y hk ht
  have hlt := (h.jn.lt _ (List.mem_of_getElem? hk)).1
  have hfd : ex.FS wr A.gf A.rb A.mb A.wb A.ct s := h.pw.fd
  have hd := ex.drpS hfd t n (by show n < 4294967296; have : n < 20 := hlt; omega)
  unfold ex.CS at hd
  rw [hA.1, hs] at hd
  refine hd.mono fun e w' hq => ?_
  obtain ⟨he, hf, hm⟩ := hq
  have hf' : ex.FS w' A.gf A.rb A.mb A.wb A.ct s' := by rw [hA.1]; exact hf
  have hm' : dk.Mods (Oth A D S) wr w' := (dkm hm).mono (fun k hk => .inl (.inr (.inl hk)))
  refine ⟨s', he, ⟨h.pw.field hf' hm, hj, h.ml.step h.pw hm' (fun q hq => .inl hq), ?_, h.d, h.t, ?_⟩, hm'⟩
  · rw [List.length_set]; exact h.n
  · have hb := h.pw.fram (w0 := w) (by show Below A.B w wr; rw [hA.2.2.2]; exact h.b) hm' (fun _ h => h)
    have hb' : Below A.B w w' := hb
    rw [hA.2.2.2] at hb'
    exact hb'
theorem log_len (T : List (List Int)) (x : List Int) (m : Nat) (h : T.length ≤ m) : (hl.addT T x).length ≤ m + 1 := by
  have := addT_len T x
  omega
/-- A Get of an extent that is held. -/
theorem LS.get (h : LS w wr A lo vl vw vb E E i m D s S T) (hA : A.ct = 20 ∧ A.fr = 5 ∧ A.N = 25 ∧ A.B = w.heap.size) (k n t y : Nat) (hk : E[k]? = some (n, t, y)) (ht : t ≠ 0) (hm : m ≤ 99999) :
    Calls Tryd.prog 9 #[.pointer (some ⟨A.p, 0, none⟩), .agg (rl n (hl.sha (bI y))).toArray] wr fun e w' => ∃ (q : Nat) (S' : Nat → Prop) (T' : List (List Int)), e = .returned (.tuple #[.slice (some ⟨q, 0, none⟩) 512 512, .int .i64 0]) ∧ dk.TX w' (.slice (some ⟨q, 0, none⟩) 512 512) (dk.tx y) ∧ wr.heap.size ≤ q ∧ ¬ S' q ∧
      LS w w' A lo vl vw vb E E i (m + 1) D s S' T' ∧ (∀ q, S' q → S q ∨ wr.heap.size ≤ q) ∧ dk.Mods (Oth A D S) wr w' := by
  have hmem := List.mem_of_getElem? hk
  obtain ⟨hlt, _, hy⟩ := h.jn.lt _ hmem
  obtain ⟨_, _, hsh⟩ := h.jn.held _ hmem ht
  simp only at hlt hy hsh
  have hT := h.t
  refine (get_any h.pw n (hl.sha (bI y)) (hl.sha_byt _) (hl.sha_len _ (bI_byt hy)) (by show n < A.ct; rw [hA.1]; exact hlt) y (by show pY (dk.shwn D.su D.ws (A.fr + n)) = y; rw [hA.2.1]; exact hsh) (dk.yb y) h.d.1 (by show A.fr + A.ct ≤ A.N; rw [hA.1, hA.2.1, hA.2.2.1]; omega) (by omega)).mono fun e w' hq => ?_
  obtain ⟨q, S', h1, h2, h3, h4, h5, h6, h7⟩ := hq
  rw [if_pos rfl] at h1
  have hm' : dk.Mods (Oth A D S) wr w' := h7.mono (fun k hk => .inl (.inr (.inr hk)))
  refine ⟨q, S', _, h1, h2, h3, h4, ⟨h5, h.jn, h.ml.step h.pw hm' h6, h.n, h.d, log_len T _ m hT, ?_⟩, h6, hm'⟩
  have hb := h.pw.fram (w0 := w) (by show Below A.B w wr; rw [hA.2.2.2]; exact h.b) hm' (fun _ h => h)
  have hb' : Below A.B w w' := hb
  rw [hA.2.2.2] at hb'
  exact hb'
end
end Go.Proofs.YtjdamlmoegippaaDoor.pl
namespace Go.Proofs.YtjdamlmoegippaaDoor.pl
open Go.RowKit
theorem inf26 : (Tryd.prog.info? 26).map (fun i => (i.zero, i.size, i.bytes)) = some (some (.agg zr), 33, 36) := by kernel_rfl
theorem parts {i? : Option TypeInfo} {z : Option Value} {a b : Nat} (h : i?.map (fun i => (i.zero, i.size, i.bytes)) = some (z, a, b)) : ∃ i, i? = some i ∧ i.zero = z ∧ i.size = a ∧ i.bytes = b := by
  cases i? with
  | none => simp at h
  | some i => simp at h; exact ⟨i, rfl, h.1, h.2.1, h.2.2⟩
section
variable {w : World} {v : Value} {n : Nat} {xs : List Value}
theorem push26 (h : dk.Rw w 26 33 v n xs) (g : Nat) (C : List Value) (hl : C.length = 33) (h1 : ∀ u ∈ C, u.oneCell' = true) (hg : w.heap[g]? = some (.cells C.toArray 26 (0, 0))) (hn : n ≤ 100000) :
    ∃ v' w', (Builtin.append_ #[49, 49] 49 #[v, .slice (some ⟨g, 0, none⟩) 1 1]).run Tryd.prog w = .ok v' w' ∧ dk.Rw w' 26 33 v' (n + 1) (xs ++ C) ∧ dk.Mods (fun k => v.ownBlock = some k) w w' ∧ (v'.ownBlock = v.ownBlock ∨ ∃ k, v'.ownBlock = some k ∧ w.heap.size ≤ k) := by
  obtain ⟨i, hi, hz0, hz1, hz2⟩ := parts inf26
  exact dk.Rw.push Tryd.underlying49 hi hz0 hz1 hz2 (by kernel_rfl) (by decide) h ⟨g, 0, none⟩ 1 1 C (by omega) (fun j u hj => by rw [dk.addr_add, Nat.zero_add, cell_row hg]; simpa using hj) h1 (by unfold maxLen; omega) (by omega) (by omega)
end
end Go.Proofs.YtjdamlmoegippaaDoor.pl
