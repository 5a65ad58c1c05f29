/-
  Lanes of ints in memory; contracts of New, Count, at, Len, Put, Take. Condition: the lanes lie in memory as New lays them.
-/
import Derived.Test.YtfdihgahegfamaaW
import Derived.Deep.LoopGhost
namespace Go.Proofs.Ytfdihgahegfamaa
open Go.RowKit Go.Conc
/-- A channel that has what l says: places of one cell each. -/
def Ch (w : World) (TE c size : Nat) (l : List Value) : Prop :=
  ∃ (buf : Array Value) (s r : Nat), w.heap[c]? = some (.chan size buf false s r false) ∧ buf.size = l.length ∧ l.length ≤ size ∧ ∀ (j : Nat) (x : Value), l[j]? = some x → ∃ q : Nat, buf[j]? = some (Value.pointer (some ⟨q, 0, none⟩)) ∧ w.heap[q]? = some (Obj.cells #[x] TE (0, 0))
/-- Lanes: n of them, each of a size, with what Q says. -/
structure LN (TL TC TE : Nat) (w : World) (g ga c0 n size : Nat) (Q : List (List Value)) : Prop where
  hs : w.heap[g]? = some (.cells #[.slice (some ⟨ga, 0, none⟩) n n] TL (0, 0))
  ha : w.heap[ga]? = some (.cells ((List.range n).map fun i => Value.chan (some (c0 + i))).toArray TC (0, 0))
  hl : Q.length = n
  hn : n ≤ 8
  hc : ∀ i l, Q[i]? = some l → Ch w TE (c0 + i) size l
section
variable {TL TC TE : Nat} {w w' : World} {g ga c0 n size : Nat} {Q : List (List Value)}
theorem LN.c0' (h : LN TL TC TE w g ga c0 n size Q) : w.cell? ⟨g, 0, none⟩ = some (.slice (some ⟨ga, 0, none⟩) n n) := by rw [cell_of_row _ _ _ _ _ _ h.hs]; rfl
theorem LN.ca (h : LN TL TC TE w g ga c0 n size Q) {k : Nat} (hk : k < n) : w.cell? ⟨ga, k, none⟩ = some (.chan (some (c0 + k))) := by rw [cell_of_row _ _ _ _ _ _ h.ha]; simp [hk]
end
theorem alloc_below (w : World) (o : Obj) : Below w.heap.size w (w.alloc o) := (Below.refl _ _).alloc (Nat.le_refl _) _
section
variable {TL TC TE : Nat} {w w' : World} {g ga c0 n size : Nat} {Q : List (List Value)}
theorem Ch.keep {c : Nat} {l : List Value} (h : Ch w TE c size l) {cx : Nat} {o : Obj} (hcx : w.heap[cx]? = some o) (hno : ∀ cs t fr, o ≠ .cells cs t fr) (hne : c ≠ cx) (hk : ∀ j, j < w.heap.size → j ≠ cx → w'.heap[j]? = w.heap[j]?) : Ch w' TE c size l := by
  obtain ⟨buf, s, r, h1, h2, h3, h4⟩ := h
  refine ⟨buf, s, r, (hk c (Array.getElem?_eq_some_iff.1 h1).1 hne).trans h1, h2, h3, fun j x hx => ?_⟩
  obtain ⟨q, hq1, hq2⟩ := h4 j x hx
  refine ⟨q, hq1, (hk q (Array.getElem?_eq_some_iff.1 hq2).1 (fun e => ?_)).trans hq2⟩
  subst e
  rw [hq2] at hcx
  exact hno _ _ _ (Option.some.inj hcx).symm
/-- One lane is turned. -/
theorem LN.upd (h : LN TL TC TE w g ga c0 n size Q) {k : Nat} {l l' : List Value} (hk : Q[k]? = some l) (hkeep : ∀ j, j < w.heap.size → j ≠ c0 + k → w'.heap[j]? = w.heap[j]?) (hch : Ch w' TE (c0 + k) size l') : LN TL TC TE w' g ga c0 n size (Q.set k l') := by
  obtain ⟨buf, s, r, hb1, _⟩ := h.hc k l hk
  have hne : ∀ {q : Nat} {cs : Array Value} {t : Nat}, w.heap[q]? = some (.cells cs t (0, 0)) → q ≠ c0 + k := fun hq e => by
    subst e; rw [hq] at hb1; cases hb1
  refine ⟨(hkeep g (Array.getElem?_eq_some_iff.1 h.hs).1 (hne h.hs)).trans h.hs, (hkeep ga (Array.getElem?_eq_some_iff.1 h.ha).1 (hne h.ha)).trans h.ha, by rw [List.length_set]; exact h.hl, h.hn, fun i l2 hi => ?_⟩
  by_cases hik : i = k
  · subst hik
    have : i < Q.length := (List.getElem?_eq_some_iff.1 hk).1
    rw [List.getElem?_set_self this] at hi
    obtain rfl := Option.some.inj hi
    exact hch
  · rw [List.getElem?_set_ne (fun e => hik e.symm)] at hi
    exact (h.hc i l2 hi).keep hb1 (fun _ _ _ e => by cases e) (by omega) hkeep
/-- Nothing of the lanes is turned. -/
theorem LN.below (h : LN TL TC TE w g ga c0 n size Q) (hb : Below w.heap.size w w') : LN TL TC TE w' g ga c0 n size Q where
  hs := (hb.block g (Array.getElem?_eq_some_iff.1 h.hs).1).trans h.hs
  ha := (hb.block ga (Array.getElem?_eq_some_iff.1 h.ha).1).trans h.ha
  hl := h.hl
  hn := h.hn
  hc := fun i l hi => by
    obtain ⟨buf, s, r, h1, h2, h3, h4⟩ := h.hc i l hi
    refine ⟨buf, s, r, (hb.block _ (Array.getElem?_eq_some_iff.1 h1).1).trans h1, h2, h3, fun j x hx => ?_⟩
    obtain ⟨q, hq1, hq2⟩ := h4 j x hx
    exact ⟨q, hq1, (hb.block q (Array.getElem?_eq_some_iff.1 hq2).1).trans hq2⟩
theorem setChan_at (w : World) (c cap : Nat) (buf : Array Value) (s r : Nat) (h : c < w.heap.size) : (w.setChan c cap buf false s r false).heap[c]? = some (.chan cap buf false s r false) := heap_setChan w c cap buf false s r false h
theorem setChan_far (w : World) (c c' cap : Nat) (buf : Array Value) (s r : Nat) (h : c ≠ c') : (w.setChan c cap buf false s r false).heap[c']? = w.heap[c']? := by
  simp [World.setChan, Array.getElem?_setIfInBounds_ne h]
/-- Which blocks the lanes' channels are. -/
def CS (c0 n : Nat) : Nat → Prop := fun k => c0 ≤ k ∧ k < c0 + n
theorem Mods.chan {S : Nat → Prop} (w : World) (c cap : Nat) (buf : Array Value) (s r : Nat) (h : S c) : Mods S w (w.setChan c cap buf false s r false) :=
  ⟨rfl, rfl, rfl, by simp [World.setChan], fun k _ hk => setChan_far w c k cap buf s r (fun e => hk (by rw [← e]; exact h))⟩
/-- A thing more in a lane. -/
theorem LN.put (h : LN TL TC TE w g ga c0 n size Q) {k : Nat} {l : List Value} (hk : Q[k]? = some l) (hr : l.length < size) (x : Value) {buf : Array Value} {s r : Nat} (hb1 : w.heap[c0 + k]? = some (.chan size buf false s r false)) :
    LN TL TC TE ((w.alloc (.cells #[x] TE)).setChan (c0 + k) size (buf.push (.pointer (some ⟨w.heap.size, 0, none⟩))) false (s + 1) r false) g ga c0 n size (Q.set k (l ++ [x])) ∧
      Mods (CS c0 n) w ((w.alloc (.cells #[x] TE)).setChan (c0 + k) size (buf.push (.pointer (some ⟨w.heap.size, 0, none⟩))) false (s + 1) r false) := by
  have hkn : k < n := by have := (List.getElem?_eq_some_iff.1 hk).1; have := h.hl; omega
  obtain ⟨buf', s', r', hb2, h2, h3, h4⟩ := h.hc k l hk
  rw [hb1] at hb2
  simp only [Option.some.injEq, Obj.chan.injEq] at hb2
  obtain ⟨_, rfl, _, rfl, rfl, _⟩ := hb2
  have hlt := (Array.getElem?_eq_some_iff.1 hb1).1
  have hkeep : ∀ j, j < w.heap.size → j ≠ c0 + k → ((w.alloc (.cells #[x] TE)).setChan (c0 + k) size (buf.push (.pointer (some ⟨w.heap.size, 0, none⟩))) false (s + 1) r false).heap[j]? = w.heap[j]? := fun j hj hne => by
    rw [setChan_far _ _ _ _ _ _ _ (fun e => hne e.symm), Below.heap_alloc _ _ _ hj]
  refine ⟨h.upd hk hkeep ⟨_, _, _, setChan_at _ _ _ _ _ _ (by simp; omega), by simp [h2], by simp; omega, fun j y hy => ?_⟩, (Mods.alloc w _).trans (Mods.chan _ _ _ _ _ _ ⟨by omega, by omega⟩) (fun b hb => .inl hb)⟩
  by_cases hj : j < l.length
  · rw [List.getElem?_append_left hj] at hy
    obtain ⟨q, hq1, hq2⟩ := h4 j y hy
    refine ⟨q, by rw [Array.getElem?_push_lt (by omega)]; rw [← hq1]; simp [Array.getElem?_eq_getElem (show j < buf.size by omega)], (hkeep q (Array.getElem?_eq_some_iff.1 hq2).1 (fun e => ?_)).trans hq2⟩
    subst e; rw [hq2] at hb1; cases hb1
  · rw [List.getElem?_append_right (by omega)] at hy
    have hj0 : j = buf.size := by
      have := (List.getElem?_eq_some_iff.1 hy).1
      simp at this; omega
    subst hj0
    rw [h2] at hy
    simp at hy
    subst hy
    refine ⟨w.heap.size, by simp, ?_⟩
    rw [setChan_far _ _ _ _ _ _ _ (by omega)]
    exact heap_alloc_new w _
/-- A lane without its first thing. -/
theorem LN.take (h : LN TL TC TE w g ga c0 n size Q) {k : Nat} {x : Value} {l : List Value} (hk : Q[k]? = some (x :: l)) {buf : Array Value} {s r : Nat} (hb1 : w.heap[c0 + k]? = some (.chan size buf false s r false)) :
    LN TL TC TE (w.setChan (c0 + k) size (buf.extract 1 buf.size) false s (r + 1) false) g ga c0 n size (Q.set k l) ∧ Mods (CS c0 n) w (w.setChan (c0 + k) size (buf.extract 1 buf.size) false s (r + 1) false) ∧
      ∃ q, buf.getD 0 undef = .pointer (some ⟨q, 0, none⟩) ∧ w.heap[q]? = some (.cells #[x] TE (0, 0)) ∧ q ≠ c0 + k ∧ 0 < buf.size := by
  have hkn : k < n := by have := (List.getElem?_eq_some_iff.1 hk).1; have := h.hl; omega
  obtain ⟨buf', s', r', hb2, h2, h3, h4⟩ := h.hc k _ hk
  rw [hb1] at hb2
  simp only [Option.some.injEq, Obj.chan.injEq] at hb2
  obtain ⟨_, rfl, _, rfl, rfl, _⟩ := hb2
  have hlt := (Array.getElem?_eq_some_iff.1 hb1).1
  have hkeep : ∀ j, j < w.heap.size → j ≠ c0 + k → (w.setChan (c0 + k) size (buf.extract 1 buf.size) false s (r + 1) false).heap[j]? = w.heap[j]? := fun j hj hne => setChan_far _ _ _ _ _ _ _ (fun e => hne e.symm)
  simp at h2 h3
  refine ⟨h.upd hk hkeep ⟨_, _, _, setChan_at _ _ _ _ _ _ hlt, by simp; omega, by omega, fun j y hy => ?_⟩, Mods.chan _ _ _ _ _ _ ⟨by omega, by omega⟩, ?_⟩
  · obtain ⟨q, hq1, hq2⟩ := h4 (j + 1) y (by simpa using hy)
    refine ⟨q, ?_, (hkeep q (Array.getElem?_eq_some_iff.1 hq2).1 (fun e => ?_)).trans hq2⟩
    · rw [← hq1, Array.getElem?_extract, if_pos (by have := (List.getElem?_eq_some_iff.1 hy).1; omega), Nat.add_comm]
    · subst e; rw [hq2] at hb1; cases hb1
  · obtain ⟨q, hq1, hq2⟩ := h4 0 x (by simp)
    refine ⟨q, by simp [hq1], hq2, fun e => ?_, by omega⟩
    subst e; rw [hq2] at hb1; cases hb1
end
theorem eqc111 (c : Nat) (w : World) : (binOp BinOp.eql 111 (Value.chan (some c)) (Value.chan none)).run Try.prog w = .ok (.bool false) w := by kernel_rfl
theorem eqn111 (w : World) : (binOp BinOp.eql 111 (Value.chan none) (Value.chan none)).run Try.prog w = .ok (.bool true) w := by kernel_rfl
theorem countL {w : World} {g ga c0 n size : Nat} {Q : List (List Value)} (h : LN 113 111 3 w g ga c0 n size Q) : Calls Try.prog 45 #[.pointer (some ⟨g, 0, none⟩)] w fun e w' => e = .returned (.int .i64 n) ∧ w = w' := by
  have c1 := h.c0'
  clear h
  go_enter Try.func45, Try.ntmps45
  go_wp2
  go_ret
  exact ⟨rfl, rfl⟩
set_option maxRecDepth 100000 in
theorem atL_no {w : World} {g ga c0 n size : Nat} {Q : List (List Value)} (h : LN 113 111 3 w g ga c0 n size Q) (i : Int) (hi : ¬ (0 ≤ i ∧ i < n)) : Calls Try.prog 78 #[.pointer (some ⟨g, 0, none⟩), .int .i64 i] w fun e w' => e = .returned (.chan none) ∧ w = w' := by
  have H := Lib.hid h
  clear h
  by_cases h0 : i < 0
  · clear hi
    go_enter Try.func78, Try.ntmps78
    go_wp2_with fail
    go_ret
    exact ⟨rfl, rfl⟩
  · have h2 : (n : Int) ≤ i := by omega
    clear hi
    go_enter Try.func78, Try.ntmps78
    go_wp2_with (go_at_call 45; refine (countL H.out).mono ?_; rintro e w' ⟨rfl, rfl⟩)
    go_ret
    exact ⟨rfl, rfl⟩
set_option maxRecDepth 100000 in
theorem atL {w : World} {g ga c0 n size : Nat} {Q : List (List Value)} (h : LN 113 111 3 w g ga c0 n size Q) (k : Nat) (hk : k < n) : Calls Try.prog 78 #[.pointer (some ⟨g, 0, none⟩), .int .i64 k] w fun e w' => e = .returned (.chan (some (c0 + k))) ∧ w = w' := by
  have H := Lib.hid h
  have c1 := h.c0'
  have c2 := h.ca hk
  have hn8 := h.hn
  have h3 : ¬ n ≤ k := by omega
  clear h
  go_enter Try.func78, Try.ntmps78
  go_wp2_with (go_at_call 45; refine (countL H.out).mono ?_; rintro e w' ⟨rfl, rfl⟩)
  go_ret
  exact ⟨rfl, rfl⟩
set_option maxRecDepth 100000 in
set_option maxHeartbeats 1000000 in
theorem putL {w : World} {g ga c0 n size : Nat} {Q : List (List Value)} (h : LN 113 111 3 w g ga c0 n size Q) (k : Nat) (l : List Value) (hk : Q[k]? = some l) (hr : l.length < size) (x : Int) :
    Calls Try.prog 53 #[.pointer (some ⟨g, 0, none⟩), .int .i64 k, .int .i64 x] w fun e w' => e = .returned (.int .i64 0) ∧ LN 113 111 3 w' g ga c0 n size (Q.set k (l ++ [.int .i64 x])) ∧ Mods (CS c0 n) w w' := by
  have hkn : k < n := by have := (List.getElem?_eq_some_iff.1 hk).1; have := h.hl; omega
  obtain ⟨buf, s, r, hb1, hb2, hb3, hb4⟩ := h.hc k l hk
  obtain ⟨w1, hw1⟩ : ∃ w1, w1 = w.alloc (.cells #[.int .i64 x] 3) := ⟨_, rfl⟩
  have hroom : buf.size < size := by omega
  have h1 : LN 113 111 3 w1 g ga c0 n size Q := by rw [hw1]; exact h.below (alloc_below w _)
  have hc1 : w1.heap[c0 + k]? = some (.chan size buf false s r false) := by rw [hw1, Below.heap_alloc _ _ _ (Array.getElem?_eq_some_iff.1 hb1).1]; exact hb1
  have PT := Lib.hid (h.put hk hr (.int .i64 x) hb1)
  have hn0 : ((n : Int) == 0) = false := by simp; omega
  have H1 := Lib.hid h1
  have HC := Lib.hid hc1
  have HB := Lib.hid hb1
  have HW := Lib.hid hw1
  clear h h1 hc1 hb1 hb4 hw1
  refine calls_of_wpB Try.func53 rfl (by rintro _ ⟨h, _⟩; cases h) (fun b hbk hbf => ?_)
  simp only [Try.ntmps53, List.size_toArray, List.length_cons, List.length_nil, Nat.reduceAdd, Nat.reduceSub, Array.replicate_succ, Array.replicate_zero, List.push_toArray, List.append_toArray, List.nil_append, List.cons_append]
  refine wpB_seq_k (fun K hK => ?_)
  go_wp2_with fail
  rw [← HW.out]
  refine wpB_seq_k (fun K hK => ?_)
  go_wp2_with (go_at_call 45; refine (countL H1.out).mono ?_; rintro e w' ⟨rfl, rfl⟩)
  refine wpB_seq_k (fun K hK => ?_)
  go_wp2_with (go_at_call 78; refine (atL H1.out k hkn).mono ?_; rintro e w' ⟨rfl, rfl⟩)
  have he := eqc111 (c0 + k)
  refine wpB_seq_k (fun K hK => ?_)
  go_wp2_with fail
  clear he
  refine wpB_seq_k (fun K hK => ?_)
  go_wp2_with fail
  refine wpB_seq_b (fun K hK => ?_)
  refine wpB_select (v := .tuple #[goInt 0, .bool false]) (w' := w1.setChan (c0 + k) size (buf.push (.pointer (some ⟨w.heap.size, 0, none⟩))) false (s + 1) r false) (fun k' cs => ?_) ?_
  · refine step_lone_select_send_room (z' := .pointer none) (stepG_comm (cases := #[scase (c0 + k) (.pointer (some ⟨w.heap.size, 0, none⟩)) (.pointer none)]) (blocking := false) (shape := .select) (w' := w1) rfl rfl (by rw [hbk]; decide) (by simp [go_sem, execOp, scase, Act.eval])) HC.out hroom
  go_wp2_with fail
  refine wpB_of ?_
  go_wp2_with fail
  go_ret
  have pt := PT.out
  rw [← HW.out] at pt
  exact ⟨rfl, pt.1, pt.2⟩
/-- More of the contracts. -/
theorem arr_nil {buf : Array Value} (h : buf.size = 0) : buf = #[] := Array.eq_empty_of_size_eq_zero h
set_option maxRecDepth 100000 in
set_option maxHeartbeats 1000000 in
theorem putL_full {w : World} {g ga c0 n size : Nat} {Q : List (List Value)} (h : LN 113 111 3 w g ga c0 n size Q) (k : Nat) (l : List Value) (hk : Q[k]? = some l) (hr : ¬ l.length < size) (x : Int) :
    Calls Try.prog 53 #[.pointer (some ⟨g, 0, none⟩), .int .i64 k, .int .i64 x] w fun e w' => e = .returned (.int .i64 5) ∧ Below w.heap.size w w' := by
  have hkn : k < n := by have := (List.getElem?_eq_some_iff.1 hk).1; have := h.hl; omega
  obtain ⟨buf, s, r, hb1, hb2, hb3, hb4⟩ := h.hc k l hk
  obtain ⟨w1, hw1⟩ : ∃ w1, w1 = w.alloc (.cells #[.int .i64 x] 3) := ⟨_, rfl⟩
  have hroom : size ≤ buf.size := by omega
  have h1 : LN 113 111 3 w1 g ga c0 n size Q := by rw [hw1]; exact h.below (alloc_below w _)
  have hc1 : w1.heap[c0 + k]? = some (.chan size buf false s r false) := by rw [hw1, Below.heap_alloc _ _ _ (Array.getElem?_eq_some_iff.1 hb1).1]; exact hb1
  have hn0 : ((n : Int) == 0) = false := by simp; omega
  have H1 := Lib.hid h1
  have HC := Lib.hid hc1
  have HW := Lib.hid hw1
  clear h h1 hc1 hb1 hb4 hw1
  refine calls_of_wpB Try.func53 rfl (by rintro _ ⟨h, _⟩; cases h) (fun b hbk hbf => ?_)
  simp only [Try.ntmps53, List.size_toArray, List.length_cons, List.length_nil, Nat.reduceAdd, Nat.reduceSub, Array.replicate_succ, Array.replicate_zero, List.push_toArray, List.append_toArray, List.nil_append, List.cons_append]
  refine wpB_seq_k (fun K hK => ?_)
  go_wp2_with fail
  rw [← HW.out]
  refine wpB_seq_k (fun K hK => ?_)
  go_wp2_with (go_at_call 45; refine (countL H1.out).mono ?_; rintro e w' ⟨rfl, rfl⟩)
  refine wpB_seq_k (fun K hK => ?_)
  go_wp2_with (go_at_call 78; refine (atL H1.out k hkn).mono ?_; rintro e w' ⟨rfl, rfl⟩)
  have he := eqc111 (c0 + k)
  refine wpB_seq_k (fun K hK => ?_)
  go_wp2_with fail
  clear he
  refine wpB_seq_k (fun K hK => ?_)
  go_wp2_with fail
  refine wpB_seq_b (fun K hK => ?_)
  refine wpB_select (v := .tuple #[goInt (-1), .bool false]) (w' := w1) (fun k' cs => ?_) ?_
  · refine step_lone_select_send_full (z' := .pointer none) (stepG_comm (cases := #[scase (c0 + k) (.pointer (some ⟨w.heap.size, 0, none⟩)) (.pointer none)]) (blocking := false) (shape := .select) (w' := w1) rfl rfl (by rw [hbk]; decide) (by simp [go_sem, execOp, scase, Act.eval])) HC.out hroom
  go_wp2_with fail
  refine wpB_of ?_
  go_wp2_with fail
  go_ret
  exact ⟨rfl, by rw [HW.out]; exact alloc_below w _⟩
set_option maxRecDepth 100000 in
set_option maxHeartbeats 1000000 in
theorem putL_arg {w : World} {g ga c0 n size : Nat} {Q : List (List Value)} (h : LN 113 111 3 w g ga c0 n size Q) (h1n : 1 ≤ n) (i : Int) (hi : ¬ (0 ≤ i ∧ i < n)) (x : Int) :
    Calls Try.prog 53 #[.pointer (some ⟨g, 0, none⟩), .int .i64 i, .int .i64 x] w fun e w' => e = .returned (.int .i64 1) ∧ Below w.heap.size w w' := by
  obtain ⟨w1, hw1⟩ : ∃ w1, w1 = w.alloc (.cells #[.int .i64 x] 3) := ⟨_, rfl⟩
  have h1 : LN 113 111 3 w1 g ga c0 n size Q := by rw [hw1]; exact h.below (alloc_below w _)
  have hn0 : ((n : Int) == 0) = false := by simp; omega
  have H1 := Lib.hid h1
  have HW := Lib.hid hw1
  have HI := Lib.hid hi
  clear h h1 hw1 hi
  refine calls_of_wpB Try.func53 rfl (by rintro _ ⟨h, _⟩; cases h) (fun b hbk hbf => ?_)
  simp only [Try.ntmps53, List.size_toArray, List.length_cons, List.length_nil, Nat.reduceAdd, Nat.reduceSub, Array.replicate_succ, Array.replicate_zero, List.push_toArray, List.append_toArray, List.nil_append, List.cons_append]
  refine wpB_seq_k (fun K hK => ?_)
  go_wp2_with fail
  rw [← HW.out]
  refine wpB_seq_k (fun K hK => ?_)
  go_wp2_with (go_at_call 45; refine (countL H1.out).mono ?_; rintro e w' ⟨rfl, rfl⟩)
  refine wpB_seq_k (fun K hK => ?_)
  go_wp2_with (go_at_call 78; refine (atL_no H1.out i HI.out).mono ?_; rintro e w' ⟨rfl, rfl⟩)
  have he := eqn111
  refine wpB_seq_k (fun K hK => ?_)
  go_wp2_with fail
  go_ret
  exact ⟨rfl, by rw [HW.out]; exact alloc_below w _⟩
/-- A thing that a take tells. -/
def TakeP (TL TC TE : Nat) (w : World) (g ga c0 n size : Nat) (Q' : List (List Value)) (x : Value) (e : Ending) (w' : World) : Prop :=
  e = .returned (.tuple #[x, .bool true]) ∧ LN TL TC TE w' g ga c0 n size Q' ∧ Mods (CS c0 n) w w'
set_option maxRecDepth 100000 in
set_option maxHeartbeats 1000000 in
theorem takeL {w : World} {g ga c0 n size : Nat} {Q : List (List Value)} (h : LN 113 111 3 w g ga c0 n size Q) (k : Nat) (x : Int) (l : List Value) (hk : Q[k]? = some (.int .i64 x :: l)) :
    Calls Try.prog 54 #[.pointer (some ⟨g, 0, none⟩), .int .i64 k] w (TakeP 113 111 3 w g ga c0 n size (Q.set k l) (.int .i64 x)) := by
  have hkn : k < n := by have := (List.getElem?_eq_some_iff.1 hk).1; have := h.hl; omega
  obtain ⟨buf, s, r, hb1, hb2, hb3, hb4⟩ := h.hc k _ hk
  obtain ⟨t1, t2, q, t3, t4, t5, t6⟩ := h.take hk hb1
  have hcell : (w.setChan (c0 + k) size (buf.extract 1 buf.size) false s (r + 1) false).cell? ⟨q, 0, none⟩ = some (.int .i64 x) := by
    rw [cell_of_row (cs := #[.int .i64 x]) (t := 3) (fr := (0, 0))]
    · rfl
    · rw [setChan_far _ _ _ _ _ _ _ (fun e => t5 e.symm)]; exact t4
  have H1 := Lib.hid h
  have HC := Lib.hid hb1
  have T1 := Lib.hid t1
  have T2 := Lib.hid t2
  clear h hb1 hb2 hb3 hb4 t1 t2 t4
  refine calls_of_wpB Try.func54 rfl (by rintro _ ⟨h, _⟩; cases h) (fun b hbk hbf => ?_)
  simp only [Try.ntmps54, List.size_toArray, List.length_cons, List.length_nil, Nat.reduceAdd, Nat.reduceSub, Array.replicate_succ, Array.replicate_zero, List.push_toArray, List.append_toArray, List.nil_append, List.cons_append]
  refine wpB_seq_k (fun K hK => ?_)
  go_wp2_with fail
  refine wpB_seq_k (fun K hK => ?_)
  go_wp2_with (go_at_call 78; refine (atL H1.out k hkn).mono ?_; rintro e w' ⟨rfl, rfl⟩)
  refine wpB_seq_b (fun K hK => ?_)
  refine wpB_select (v := .tuple #[goInt 0, .bool true, buf.getD 0 undef]) (w' := w.setChan (c0 + k) size (buf.extract 1 buf.size) false s (r + 1) false) (fun k' cs => ?_) ?_
  · refine step_lone_select_recv_buf (z := .pointer none) (stepG_comm (cases := #[rcase (c0 + k) (.pointer none)]) (blocking := false) (shape := .select) (w' := w) rfl rfl (by rw [hbk]; decide) (by simp [go_sem, execOp, rcase, Act.eval])) HC.out t6
  rw [t3]
  clear t3 t6
  go_wp2_with fail
  refine wpB_of ?_
  go_wp2_with fail
  go_ret2
  exact ⟨rfl, T1.out, T2.out⟩
set_option maxRecDepth 100000 in
set_option maxHeartbeats 1000000 in
theorem takeL_no {w : World} {g ga c0 n size : Nat} {Q : List (List Value)} (h : LN 113 111 3 w g ga c0 n size Q) (k : Nat) (hk : Q[k]? = some []) :
    Calls Try.prog 54 #[.pointer (some ⟨g, 0, none⟩), .int .i64 k] w fun e w' => e = .returned (.tuple #[.int .i64 0, .bool false]) ∧ Below w.heap.size w w' := by
  have hkn : k < n := by have := (List.getElem?_eq_some_iff.1 hk).1; have := h.hl; omega
  obtain ⟨buf, s, r, hb1, hb2, hb3, hb4⟩ := h.hc k _ hk
  rw [arr_nil hb2] at hb1
  have H1 := Lib.hid h
  have HC := Lib.hid hb1
  clear h hb1 hb2 hb3 hb4
  refine calls_of_wpB Try.func54 rfl (by rintro _ ⟨h, _⟩; cases h) (fun b hbk hbf => ?_)
  simp only [Try.ntmps54, List.size_toArray, List.length_cons, List.length_nil, Nat.reduceAdd, Nat.reduceSub, Array.replicate_succ, Array.replicate_zero, List.push_toArray, List.append_toArray, List.nil_append, List.cons_append]
  refine wpB_seq_k (fun K hK => ?_)
  go_wp2_with fail
  refine wpB_seq_k (fun K hK => ?_)
  go_wp2_with (go_at_call 78; refine (atL H1.out k hkn).mono ?_; rintro e w' ⟨rfl, rfl⟩)
  refine wpB_seq_b (fun K hK => ?_)
  refine wpB_select (v := .tuple #[goInt (-1), .bool false, .pointer none]) (w' := w) (fun k' cs => ?_) ?_
  · refine step_lone_select_default (z := .pointer none) (stepG_comm (cases := #[rcase (c0 + k) (.pointer none)]) (blocking := false) (shape := .select) (w' := w) rfl rfl (by rw [hbk]; decide) (by simp [go_sem, execOp, rcase, Act.eval])) HC.out
  go_wp2_with fail
  refine wpB_of ?_
  go_wp2_with fail
  go_ret2
  exact ⟨rfl, alloc_below w _⟩
set_option maxRecDepth 100000 in
set_option maxHeartbeats 1000000 in
theorem takeL_arg {w : World} {g ga c0 n size : Nat} {Q : List (List Value)} (h : LN 113 111 3 w g ga c0 n size Q) (i : Int) (hi : ¬ (0 ≤ i ∧ i < n)) :
    Calls Try.prog 54 #[.pointer (some ⟨g, 0, none⟩), .int .i64 i] w fun e w' => e = .returned (.tuple #[.int .i64 0, .bool false]) ∧ Below w.heap.size w w' := by
  have H1 := Lib.hid h
  have HI := Lib.hid hi
  clear h hi
  refine calls_of_wpB Try.func54 rfl (by rintro _ ⟨h, _⟩; cases h) (fun b hbk hbf => ?_)
  simp only [Try.ntmps54, List.size_toArray, List.length_cons, List.length_nil, Nat.reduceAdd, Nat.reduceSub, Array.replicate_succ, Array.replicate_zero, List.push_toArray, List.append_toArray, List.nil_append, List.cons_append]
  refine wpB_seq_k (fun K hK => ?_)
  go_wp2_with fail
  refine wpB_seq_k (fun K hK => ?_)
  go_wp2_with (go_at_call 78; refine (atL_no H1.out i HI.out).mono ?_; rintro e w' ⟨rfl, rfl⟩)
  refine wpB_seq_b (fun K hK => ?_)
  refine wpB_select (v := .tuple #[goInt (-1), .bool false, .pointer none]) (w' := w) (fun k' cs => ?_) ?_
  · refine step_lone_select_recv_nil (z := .pointer none) (stepG_comm (cases := #[rcaseNil (.pointer none)]) (blocking := false) (shape := .select) (w' := w) rfl rfl (by rw [hbk]; decide) (by simp [go_sem, execOp, rcaseNil, Act.eval]))
  go_wp2_with fail
  refine wpB_of ?_
  go_wp2_with fail
  go_ret2
  exact ⟨rfl, alloc_below w _⟩
end Go.Proofs.Ytfdihgahegfamaa
