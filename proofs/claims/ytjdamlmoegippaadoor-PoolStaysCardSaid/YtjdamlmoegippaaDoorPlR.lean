/-
  The lists of a play in memory, beside a pool: what a pool's calls leave of them, what they leave of a pool. Condition: none.
-/
import Derived.Test.YtjdamlmoegippaaDoorPlO
namespace Go.Proofs.YtjdamlmoegippaaDoor.pl
open Go.RowKit
/-- What was put: where, whose (0: dropped), which octet. -/
abbrev En := Nat × Nat × Nat
/-- The cells of the references, the tenants, the octets. -/
def flr (E : List En) : List Value := E.flatMap fun e => rl e.1 (hl.sha (bI e.2.2))
def flw (E : List En) : List Value := E.map fun e => .int .i64 (e.2.1 : Int)
def flb (E : List En) : List Value := E.map fun e => .int .u8 (e.2.2 : Int)
def cnT (t : Nat) (E : List En) : Nat := E.countP fun e => e.2.1 == t
/-- What holds of a field and a disk after a play. -/
structure JN (N fr : Nat) (s : ex.St) (su : Nat → Option Nat) (ws : List (Nat × Nat)) (E : List En) : Prop where
  lt : ∀ e, e ∈ E → e.1 < N ∧ e.2.1 ≤ 8 ∧ e.2.2 < 256
  held : ∀ e, e ∈ E → e.2.1 ≠ 0 → (s.T e.2.1).i = true ∧ s.f e.1 = 1 ∧ pY (dk.shwn su ws (fr + e.1)) = e.2.2
  one : ∀ (j k : Nat) (a b : En), E[j]? = some a → E[k]? = some b → a.2.1 ≠ 0 → b.2.1 ≠ 0 → a.1 = b.1 → j = k
  cn : ∀ t, t ≠ 0 → (cnT t E : Int) ≤ (s.T t).c
theorem JN.nil (N fr : Nat) (s : ex.St) (su : Nat → Option Nat) (ws : List (Nat × Nat)) (h : ∀ t, 0 ≤ (s.T t).c) : JN N fr s su ws [] :=
  ⟨fun _ he => absurd he List.not_mem_nil, fun _ he => absurd he List.not_mem_nil, fun _ _ _ _ hj => absurd hj (by simp), fun t _ => by simpa [cnT] using h t⟩
theorem shwn_push (su : Nat → Option Nat) (ws : List (Nat × Nat)) (s y k : Nat) : dk.shwn su (ws ++ [(s, y)]) k = if k = s then some y else dk.shwn su ws k := by
  unfold dk.shwn
  rw [dk.lastW_app]
  by_cases e : k = s
  · subst e; simp
  · simp [e, Ne.symm e]
/-- A put that went through. -/
theorem JN.put {N fr : Nat} {s : ex.St} {su : Nat → Option Nat} {ws : List (Nat × Nat)} {E : List En} (h : JN N fr s su ws E) (n t y : Nat) (hn : n < N) (h8 : t ≤ 8) (hy : y < 256) (hi : (s.T t).i = true) (h0 : s.f n = 0) :
    JN N fr ⟨ex.upd s.f n (s.f n + 1), ex.addT s.T t 1⟩ su (ws ++ [(fr + n, y)]) (E ++ [(n, t, y)]) := by
  have ai : ∀ k, (ex.addT s.T t 1 k).i = (s.T k).i := fun k => by
    unfold ex.addT ex.updT
    by_cases e : k = t
    · rw [if_pos e, e]
    · rw [if_neg e]
  have ne : ∀ e, e ∈ E → e.2.1 ≠ 0 → e.1 ≠ n := fun e he ht hn => by
    have := (h.held e he ht).2.1
    rw [hn, h0] at this
    cases this
  refine ⟨fun e he => ?_, fun e he ht => ?_, fun j k a b hj hk ha hb e => ?_, fun t' ht => ?_⟩
  · rcases List.mem_append.1 he with he | he
    · exact h.lt e he
    · obtain rfl := List.mem_singleton.1 he
      exact ⟨hn, h8, hy⟩
  · rcases List.mem_append.1 he with he | he
    · obtain ⟨q1, q2, q3⟩ := h.held e he ht
      have q := ne e he ht
      refine ⟨(ai _).trans q1, ?_, ?_⟩
      · show ex.upd s.f n (s.f n + 1) e.1 = 1
        unfold ex.upd
        rw [if_neg q]; exact q2
      · rw [shwn_push, if_neg (by omega)]; exact q3
    · obtain rfl := List.mem_singleton.1 he
      refine ⟨(ai _).trans hi, ?_, ?_⟩
      · show ex.upd s.f n (s.f n + 1) n = 1
        unfold ex.upd
        rw [if_pos rfl, h0]
      · show pY (dk.shwn su (ws ++ [(fr + n, y)]) (fr + n)) = y
        rw [shwn_push, if_pos rfl]; rfl
  · have cs : ∀ (j : Nat) (a : En), (E ++ [(n, t, y)])[j]? = some a → E[j]? = some a ∨ (j = E.length ∧ a = (n, t, y)) := fun j a hj => by
      by_cases hl : j < E.length
      · rw [List.getElem?_append_left hl] at hj; exact .inl hj
      · rw [List.getElem?_append_right (by omega)] at hj
        obtain ⟨q1, q2⟩ := List.getElem?_eq_some_iff.1 hj
        have q3 : j = E.length := by simp at q1; omega
        subst q3
        simp at hj
        exact .inr ⟨rfl, hj.symm⟩
    rcases cs j a hj with p | ⟨p1, p2⟩ <;> rcases cs k b hk with r | ⟨r1, r2⟩
    · exact h.one j k a b p r ha hb e
    · rw [r2] at e; exact absurd e (ne a (List.mem_of_getElem? p) ha)
    · rw [p2] at e; exact absurd e.symm (ne b (List.mem_of_getElem? r) hb)
    · omega
  · have q := h.cn t' ht
    have e1 : cnT t' (E ++ [(n, t, y)]) = cnT t' E + if t = t' then 1 else 0 := by
      unfold cnT
      rw [List.countP_append]
      by_cases e : t = t' <;> simp [e]
    rw [e1]
    show _ ≤ (ex.addT s.T t 1 t').c
    unfold ex.addT ex.updT
    by_cases e : t' = t
    · rw [if_pos e, e, if_pos rfl]
      rw [e] at q
      show _ ≤ (s.T t).c + 1
      omega
    · rw [if_neg e, if_neg (Ne.symm e)]
      omega
/-- A drop. -/
theorem JN.drop {N fr : Nat} {s : ex.St} {su : Nat → Option Nat} {ws : List (Nat × Nat)} {E : List En} (h : JN N fr s su ws E) (k n t y : Nat) (hk : E[k]? = some (n, t, y)) (ht : t ≠ 0) :
    ∃ s', ex.sDrp N s t n = (0, s') ∧ JN N fr s' su ws (E.set k (n, 0, y)) ∧ ∀ u, (s'.T u).i = (s.T u).i := by
  have hm := List.mem_of_getElem? hk
  obtain ⟨l1, l2, l3⟩ := h.lt _ hm
  obtain ⟨h1, h2, h3⟩ := h.held _ hm ht
  have hkl : k < E.length := (List.getElem?_eq_some_iff.1 hk).1
  have hc := h.cn t ht
  have hpos : 1 ≤ cnT t E := by
    unfold cnT
    exact List.countP_pos_iff.2 ⟨_, hm, by simp⟩
  simp only at l1 l2 l3 h1 h2 h3
  have hin : ex.isIn s.T (t : Int) := ⟨by omega, by omega, by rw [Int.toNat_natCast]; exact h1⟩
  refine ⟨⟨ex.upd s.f n (s.f n - 1), ex.addT s.T t (-1)⟩, ?_, ?_, ?_⟩
  · unfold ex.sDrp
    rw [if_pos l1, if_pos hin, Int.toNat_natCast, if_neg (by omega), if_pos h2]
  · have ai : ∀ k, (ex.addT s.T t (-1) k).i = (s.T k).i := fun k => by
      unfold ex.addT ex.updT
      by_cases e : k = t
      · rw [if_pos e, e]
      · rw [if_neg e]
    have cs : ∀ (j : Nat) (a : En), (E.set k (n, 0, y))[j]? = some a → a.2.1 ≠ 0 → E[j]? = some a ∧ j ≠ k := fun j a hj ha => by
      by_cases e : j = k
      · subst e
        rw [List.getElem?_set_self hkl] at hj
        cases hj
        exact absurd rfl ha
      · rw [List.getElem?_set_ne (Ne.symm e)] at hj
        exact ⟨hj, e⟩
    refine ⟨fun e he => ?_, fun e he ht' => ?_, fun j j' a b hj hj' ha hb e => ?_, fun u hu => ?_⟩
    · rcases List.mem_or_eq_of_mem_set he with he | rfl
      · exact h.lt e he
      · exact ⟨l1, by show 0 ≤ 8; omega, l3⟩
    · obtain ⟨j, hj⟩ := List.getElem?_of_mem he
      obtain ⟨g1, g2⟩ := cs j e hj ht'
      obtain ⟨q1, q2, q3⟩ := h.held e (List.mem_of_getElem? g1) ht'
      refine ⟨(ai _).trans q1, ?_, q3⟩
      show ex.upd s.f n (s.f n - 1) e.1 = 1
      unfold ex.upd
      rw [if_neg (fun e' => g2 (h.one j k e (n, t, y) g1 hk ht' ht e'))]
      exact q2
    · exact h.one j j' a b (cs j a hj ha).1 (cs j' b hj' hb).1 ha hb e
    · have q := h.cn u hu
      have e1 : (cnT u (E.set k (n, 0, y)) : Int) = (cnT u E : Int) - if t = u then 1 else 0 := by
        unfold cnT
        rw [List.countP_set hkl]
        have hg : E[k] = (n, t, y) := (List.getElem?_eq_some_iff.1 hk).2
        rw [hg]
        have z : ((0 : Nat) == u) = false := by simp; omega
        by_cases e : t = u
        · subst e
          have := hpos
          unfold cnT at this
          simp [z]
          omega
        · simp [e, z]
      rw [e1]
      show _ ≤ (ex.addT s.T t (-1) u).c
      unfold ex.addT ex.updT
      by_cases e : u = t
      · rw [if_pos e, e, if_pos rfl]
        rw [e] at q
        show _ ≤ (s.T t).c + -1
        omega
      · rw [if_neg e, if_neg (Ne.symm e)]
        omega
  · intro u
    show (ex.addT s.T t (-1) u).i = _
    unfold ex.addT ex.updT
    by_cases e : u = t
    · rw [if_pos e, e]
    · rw [if_neg e]
end Go.Proofs.YtjdamlmoegippaaDoor.pl
namespace Go.Proofs.YtjdamlmoegippaaDoor.pl
open Go.RowKit
theorem PW.nOth3 {w : World} {A : PA} {D : DS} {s : ex.St} {S : Nat → Prop} {T : List (List Int)} {r : Nat} {cs : Array Value} (h : PW w A D s S T) (hr : w.heap[r]? = some (.cells cs 3 (0, 0))) (hS : ¬ S r) : ¬ Oth A D S r := fun hk => by
  rcases hk with hk | hk | hk
  · exact dk.pv.DK.not h.dk hr (by decide) (by decide) hk
  · rcases hk with rfl | rfl | rfl
    · exact row_ne (ex.FD.blk h.fd) hr (by decide) rfl
    · obtain ⟨es, c, h1⟩ := (ex.FD.row h.fd).map.isMap
      rw [hr] at h1; cases h1
    · obtain ⟨cs', wd, h1, _⟩ := (ex.FD.row h.fd).wds
      exact row_ne h1 hr (by decide) rfl
  · exact hS hk
theorem PW.nOth5 {w : World} {A : PA} {D : DS} {s : ex.St} {S : Nat → Prop} {T : List (List Int)} {r : Nat} {cs : Array Value} (h : PW w A D s S T) (hr : w.heap[r]? = some (.cells cs 5 (0, 0))) (hS : ¬ S r) : ¬ Oth A D S r := fun hk => by
  rcases hk with hk | hk | hk
  · exact dk.pv.DK.not h.dk hr (by decide) (by decide) hk
  · rcases hk with rfl | rfl | rfl
    · exact row_ne (ex.FD.blk h.fd) hr (by decide) rfl
    · obtain ⟨es, c, h1⟩ := (ex.FD.row h.fd).map.isMap
      rw [hr] at h1; cases h1
    · obtain ⟨cs', wd, h1, _⟩ := (ex.FD.row h.fd).wds
      exact row_ne h1 hr (by decide) rfl
  · exact hS hk
/-- A list of the caller's own is turned, or made anew; its block of bytes is not the disk's. -/
theorem PW.bytes {w w' : World} {A : PA} {D : DS} {s : ex.St} {S : Nat → Prop} {T : List (List Int)} (h : PW w A D s S T) (Q q' : Nat → Prop) (m : dk.Mods Q w w') (hQ : ∀ k, Q k → A.q k ∧ ¬ S k ∧ ∃ cs, w.heap[k]? = some (.cells cs 5 (0, 0))) (hq : ∀ k, q' k → (A.q k ∨ w.heap.size ≤ k) ∧ k < w'.heap.size) : PW w' { A with q := q' } D s S T := by
  have ne : ∀ (k r : Nat) (cs' : Array Value) (t : TypeId), Q r → w.heap[k]? = some (.cells cs' t (0, 0)) → t ≠ 5 → k ≠ r := fun k r cs' t hr hk ht e => by
    obtain ⟨_, _, cs, hc⟩ := hQ r hr
    rw [e, hc] at hk; injection hk with hk; injection hk with _ hk; exact ht hk.symm
  have nQ : ∀ (k : Nat) (cs' : Array Value) (t : TypeId), w.heap[k]? = some (.cells cs' t (0, 0)) → t ≠ 5 → ¬ Q k := fun k cs' t hk ht hr => ne k k cs' t hr hk ht rfl
  refine ⟨h.pool.mods m (nQ _ _ _ h.pool.row (by decide)) (nQ _ _ _ h.pool.box (by decide)), ?_, ?_, h.lg.mods (hlm m) (fun b hb e => (hQ b e).2.1 hb), h.gg.mods (hlm m) (fun b e => by have := (h.aq b (hQ b e).1).1; have := h.bb.1; omega), h.a1, fun k hk => ?_, h.a3, h.a4, fun k hk => ?_, h.bb.1, Nat.le_trans h.bb.2 m.size⟩
  · refine dk.pv.DK.to h.dk m (fun b e hd => ?_) (fun b cs' hp hc e => hp.2 (hQ b e).1) (fun b hb hp => ⟨hp.1, fun e => ?_⟩)
    · obtain ⟨_, _, cs, hc⟩ := hQ b e
      exact dk.pv.DK.not h.dk hc (by decide) (by decide) hd
    · rcases (hq b e).1 with e | e
      · exact hp.2 e
      · omega
  · refine ex.FD.mods h.fd (exm m) (nQ _ _ _ (ex.FD.blk h.fd) (by decide)) (nQ _ _ _ (ex.FD.row h.fd).row (by decide)) (fun e => ?_) (fun e => ?_)
    · obtain ⟨es, c, h1⟩ := (ex.FD.row h.fd).map.isMap
      obtain ⟨_, _, cs, hc⟩ := hQ _ e
      rw [hc] at h1; cases h1
    · obtain ⟨cs', wd, h1, _⟩ := (ex.FD.row h.fd).wds
      exact nQ _ _ _ h1 (by decide) e
  · have q := h.a2 k hk
    have := m.size
    exact ⟨q.1, by show k < w'.heap.size; omega, q.2.2⟩
  · have q := hq k hk
    refine ⟨?_, q.2⟩
    show A.B ≤ k
    rcases q.1 with e | e
    · exact (h.aq k e).1
    · exact Nat.le_trans h.bb.2 e
theorem Rw.row {w : World} {e sz n : Nat} {v : Value} {xs : List Value} (h : dk.Rw w e sz v n xs) : ∀ k, v.ownBlock = some k → ∃ cs, w.heap[k]? = some (.cells cs e (0, 0)) := by
  intro k hk
  rcases h.2.2 with ⟨rfl, _⟩ | ⟨b, o, cap, cs, rfl, hg, _⟩
  · simp [Value.ownBlock] at hk
  · simp [Value.ownBlock] at hk
    subst hk
    exact ⟨cs, hg⟩
/-- The lists of a play. -/
structure ML (w : World) (lo : Nat) (S : Nat → Prop) (vl vw vb : Value) (E : List En) : Prop where
  l : dk.Rw w 26 33 vl E.length (flr E)
  wh : dk.Rw w 3 1 vw E.length (flw E)
  b : dk.Rw w 5 1 vb E.length (flb E)
  own : ∀ k, (vl.ownBlock = some k ∨ vw.ownBlock = some k ∨ vb.ownBlock = some k) → lo ≤ k ∧ ¬ S k
section
variable {w w' : World} {lo : Nat} {A : PA} {D : DS} {s : ex.St} {S S' Q : Nat → Prop} {T : List (List Int)} {vl vw vb : Value} {E : List En}
theorem ML.nil (w : World) (lo : Nat) (S : Nat → Prop) : ML w lo S (.slice none 0 0) (.slice none 0 0) (.slice none 0 0) [] :=
  ⟨dk.Rw.nil _ _ _, dk.Rw.nil _ _ _, dk.Rw.nil _ _ _, fun k hk => by simp [Value.ownBlock] at hk⟩
theorem ML.lt (h : ML w lo S vl vw vb E) : ∀ k, (vl.ownBlock = some k ∨ vw.ownBlock = some k ∨ vb.ownBlock = some k) → k < w.heap.size := fun k hk => by
  rcases hk with e | e | e
  · exact dk.Rw.lt h.l k e
  · exact dk.Rw.lt h.wh k e
  · exact dk.Rw.lt h.b k e
theorem ML.step (h : ML w lo S vl vw vb E) (hp : PW w A D s S T) (m : dk.Mods (Oth A D S) w w') (hS : ∀ q, S' q → S q ∨ w.heap.size ≤ q) : ML w' lo S' vl vw vb E := by
  refine ⟨dk.Rw.mods h.l m (fun k hk e => ?_), dk.Rw.mods h.wh m (fun k hk e => ?_), dk.Rw.mods h.b m (fun k hk e => ?_), fun k hk => ⟨(h.own k hk).1, fun e => ?_⟩⟩
  · obtain ⟨cs, hc⟩ := Rw.row h.l k hk
    exact hp.nOth hc (h.own k (.inl hk)).2 e
  · obtain ⟨cs, hc⟩ := Rw.row h.wh k hk
    exact hp.nOth3 hc (h.own k (.inr (.inl hk))).2 e
  · obtain ⟨cs, hc⟩ := Rw.row h.b k hk
    exact hp.nOth5 hc (h.own k (.inr (.inr hk))).2 e
  · rcases hS k e with e | e
    · exact (h.own k hk).2 e
    · have := h.lt k hk
      omega
theorem ML.below (h : ML w lo S vl vw vb E) (hb : Below w.heap.size w w') : ML w' lo S vl vw vb E :=
  ⟨dk.Rw.mods h.l (dk.Mods.of_below (S := fun _ => False) hb) (fun _ _ => id), dk.Rw.mods h.wh (dk.Mods.of_below (S := fun _ => False) hb) (fun _ _ => id), dk.Rw.mods h.b (dk.Mods.of_below (S := fun _ => False) hb) (fun _ _ => id), h.own⟩
end
theorem rl32 (e : En) (h : e.2.2 < 256) : (rl e.1 (hl.sha (bI e.2.2))).length = 33 := rl_len _ (hl.sha_len _ (bI_byt h))
theorem flr_at : ∀ (E : List En) (k : Nat) (e : En) (j : Nat), (∀ e, e ∈ E → e.2.2 < 256) → E[k]? = some e → j < 33 → (flr E)[k * 33 + j]? = (rl e.1 (hl.sha (bI e.2.2)))[j]?
  | [], _, _, _, _, h, _ => by simp at h
  | a :: E, 0, e, j, hE, h, hj => by
    obtain rfl : a = e := by simpa using h
    show (List.flatMap _ (a :: E))[_]? = _
    rw [List.flatMap_cons, Nat.zero_mul, Nat.zero_add, List.getElem?_append_left (by rw [rl32 a (hE a List.mem_cons_self)]; exact hj)]
  | a :: E, k + 1, e, j, hE, h, hj => by
    have ih := flr_at E k e j (fun e' h => hE e' (List.mem_cons_of_mem _ h)) (by simpa using h) hj
    have h33 := rl32 a (hE a List.mem_cons_self)
    show (List.flatMap _ (a :: E))[_]? = _
    rw [List.flatMap_cons, List.getElem?_append_right (by rw [h33]; omega), h33, show (k + 1) * 33 + j - 33 = k * 33 + j by omega]
    exact ih
theorem flr_push (E : List En) (e : En) : flr (E ++ [e]) = flr E ++ rl e.1 (hl.sha (bI e.2.2)) := by simp [flr]
theorem flw_push (E : List En) (e : En) : flw (E ++ [e]) = flw E ++ [.int .i64 (e.2.1 : Int)] := by simp [flw]
theorem flb_push (E : List En) (e : En) : flb (E ++ [e]) = flb E ++ [.int .u8 (e.2.2 : Int)] := by simp [flb]
theorem flw_at {E : List En} {k : Nat} {e : En} (h : E[k]? = some e) : (flw E)[k]? = some (.int .i64 (e.2.1 : Int)) := by simp [flw, h]
theorem flb_at {E : List En} {k : Nat} {e : En} (h : E[k]? = some e) : (flb E)[k]? = some (.int .u8 (e.2.2 : Int)) := by simp [flb, h]
theorem flr_drop : ∀ (E : List En) (k n t y : Nat), E[k]? = some (n, t, y) → flr (E.set k (n, 0, y)) = flr E
  | [], _, _, _, _, h => by simp at h
  | a :: E, 0, n, t, y, h => by
    obtain rfl : a = (n, t, y) := by simpa using h
    rfl
  | a :: E, k + 1, n, t, y, h => by
    have ih := flr_drop E k n t y (by simpa using h)
    unfold flr at ih ⊢
    rw [List.set_cons_succ, List.flatMap_cons, List.flatMap_cons, ih]
theorem flw_drop (E : List En) (k n y : Nat) : flw (E.set k (n, 0, y)) = (flw E).set k (.int .i64 0) := by
  unfold flw
  rw [List.map_set]
  rfl
theorem flb_drop : ∀ (E : List En) (k n t y : Nat), E[k]? = some (n, t, y) → flb (E.set k (n, 0, y)) = flb E
  | [], _, _, _, _, h => by simp at h
  | a :: E, 0, n, t, y, h => by
    obtain rfl : a = (n, t, y) := by simpa using h
    rfl
  | a :: E, k + 1, n, t, y, h => by
    have ih := flb_drop E k n t y (by simpa using h)
    unfold flb at ih ⊢
    rw [List.set_cons_succ, List.map_cons, List.map_cons, ih]
/-- One number of a row of numbers is turned. -/
theorem Rw.set1 {w : World} {e n : Nat} {b o c : Nat} {xs : List Value} (h : dk.Rw w e 1 (.slice (some ⟨b, o, none⟩) n c) n xs) (k : Nat) (hk : k < n) (u : Value) (hu : u.oneCell' = true) :
    dk.Rw (w.setCell ⟨b, o + k, none⟩ u) e 1 (.slice (some ⟨b, o, none⟩) n c) n (xs.set k u) ∧ dk.Mods (fun j => j = b) w (w.setCell ⟨b, o + k, none⟩ u) := by
  obtain ⟨hl, h1, ⟨hh, _⟩ | ⟨b', o', cap, cs, h2, hg, h3, h4, h5, h6⟩⟩ := h
  · simp at hh
  · simp only [Value.slice.injEq, Option.some.injEq, Addr.mk.injEq] at h2
    obtain ⟨⟨rfl, rfl, _⟩, _, rfl⟩ := h2
    have hg' : (w.setCell ⟨b, o + k, none⟩ u).heap[b]? = some (.cells (cs.setIfInBounds (o + k) u) e (0, 0)) := by
      simp [World.setCell, Array.getElem?_modify, hg]
    refine ⟨⟨by rw [List.length_set]; exact hl, fun v hv => ?_, .inr ⟨b, o, c, _, rfl, hg', by rw [Array.size_setIfInBounds]; exact h3, h4, h5, fun j v hj => ?_⟩⟩, ⟨rfl, rfl, rfl, by simp [World.setCell], fun j _ hj => ?_⟩⟩
    · rcases List.mem_or_eq_of_mem_set hv with hv | rfl
      · exact h1 v hv
      · exact hu
    · by_cases e : k = j
      · subst e
        have hjl := (List.getElem?_eq_some_iff.1 hj).1
        rw [List.length_set] at hjl
        rw [List.getElem?_set_self hjl] at hj
        rw [Array.getElem?_setIfInBounds_self_of_lt (by omega)]
        exact hj
      · rw [List.getElem?_set_ne e] at hj
        rw [Array.getElem?_setIfInBounds_ne (by omega)]
        exact h6 j v hj
    · simp only [World.setCell, Array.getElem?_modify]
      rw [if_neg (Ne.symm hj)]
end Go.Proofs.YtjdamlmoegippaaDoor.pl
