/-
  Lanes of ints beside slices of the call's own: which blocks the lanes' things lie in. Condition: the lanes lie in memory as New lays them.
-/
import Derived.Test.YtfdihgahegfamaaZ
namespace Go.Proofs.Ytfdihgahegfamaa
open Go.RowKit Go.Conc
theorem and_le (z : Int) (c : Nat) (hc : c ≤ 7) : ∃ m : Nat, bits .and .i64 z (c : Int) = (m : Int) ∧ m ≤ c := by
  refine ⟨(BitVec.ofInt 64 z &&& BitVec.ofInt 64 (c : Int)).toNat, ?_, ?_⟩
  · have e : bits .and .i64 z (c : Int) = IntKind.i64.wrap ((BitVec.ofInt 64 z &&& BitVec.ofInt 64 (c : Int)).toNat : Int) := rfl
    have h : (BitVec.ofInt 64 z &&& BitVec.ofInt 64 (c : Int)).toNat ≤ c := by
      rw [BitVec.toNat_and]
      refine Nat.le_trans Nat.and_le_right ?_
      simp [BitVec.toNat_ofInt]; omega
    rw [e, IntKind.wrap_i64]
    omega
  · rw [BitVec.toNat_and]
    refine Nat.le_trans Nat.and_le_right ?_
    simp [BitVec.toNat_ofInt]; omega
/-- The block of a thing in a lane. -/
def BX (w : World) (c0 n q : Nat) : Prop := ∃ (i cap s r j : Nat) (buf : Array Value), i < n ∧ w.heap[c0 + i]? = some (.chan cap buf false s r false) ∧ buf[j]? = some (.pointer (some ⟨q, 0, none⟩))
section
variable {w w' : World} {c0 n k cap s r : Nat} {buf : Array Value}
theorem bx_turn {buf' : Array Value} {s' r' : Nat} {w1 : World} (hb1 : w.heap[c0 + k]? = some (.chan cap buf false s r false)) (hk : ∀ j, j ≠ c0 + k → j < w.heap.size → w1.heap[j]? = w.heap[j]?) (hs : w.heap.size ≤ w1.heap.size) (hnew : ∀ j, w.heap.size ≤ j → ∀ cp b x y z u, w1.heap[j]? ≠ some (.chan cp b x y z u))
    (hbuf : ∀ (j q : Nat), buf'[j]? = some (Value.pointer (some ⟨q, 0, none⟩)) → (∃ j' : Nat, buf[j']? = some (Value.pointer (some ⟨q, 0, none⟩))) ∨ w.heap.size ≤ q) (hkn : k < n) :
    ∀ q, BX (w1.setChan (c0 + k) cap buf' false s' r' false) c0 n q → BX w c0 n q ∨ w.heap.size ≤ q := by
  rintro q ⟨i, cp, sx, rx, j, bf, hi, hh, hj⟩
  have hlt := (Array.getElem?_eq_some_iff.1 hb1).1
  by_cases hik : i = k
  · subst hik
    rw [setChan_at _ _ _ _ _ _ (by omega)] at hh
    simp only [Option.some.injEq, Obj.chan.injEq] at hh
    obtain ⟨_, rfl, _, _, _, _⟩ := hh
    rcases hbuf j q hj with ⟨j', h'⟩ | h'
    · exact .inl ⟨i, cap, s, r, j', buf, hi, hb1, h'⟩
    · exact .inr h'
  · rw [setChan_far _ _ _ _ _ _ _ (by omega)] at hh
    by_cases hlt2 : c0 + i < w.heap.size
    · rw [hk _ (by omega) hlt2] at hh
      exact .inl ⟨i, cp, sx, rx, j, bf, hi, hh, hj⟩
    · exact absurd hh (hnew _ (by omega) _ _ _ _ _ _)
theorem bx_put {TE : Nat} {x : Value} (hb1 : w.heap[c0 + k]? = some (.chan cap buf false s r false)) (hkn : k < n) :
    ∀ q, BX ((w.alloc (.cells #[x] TE)).setChan (c0 + k) cap (buf.push (.pointer (some ⟨w.heap.size, 0, none⟩))) false (s + 1) r false) c0 n q → BX w c0 n q ∨ w.heap.size ≤ q :=
  bx_turn hb1 (fun j _ hj => Below.heap_alloc _ _ _ hj) (by simp) (fun j hj cp b x' y z u e => by
    have := (Array.getElem?_eq_some_iff.1 e).1
    simp at this
    obtain rfl : j = w.heap.size := by omega
    rw [heap_alloc_new] at e
    cases e) (fun j q hq => by
    rw [Array.getElem?_push] at hq
    split at hq
    · simp at hq; exact .inr (by omega)
    · exact .inl ⟨j, hq⟩) hkn
theorem bx_take (hb1 : w.heap[c0 + k]? = some (.chan cap buf false s r false)) (hkn : k < n) :
    ∀ q, BX (w.setChan (c0 + k) cap (buf.extract 1 buf.size) false s (r + 1) false) c0 n q → BX w c0 n q ∨ w.heap.size ≤ q :=
  bx_turn hb1 (fun _ _ _ => rfl) (Nat.le_refl _) (fun j hj cp b x' y z u e => by
    have := (Array.getElem?_eq_some_iff.1 e).1
    omega) (fun j q hq => by
    rw [Array.getElem?_extract] at hq
    split at hq
    · exact .inl ⟨_, hq⟩
    · cases hq) hkn
theorem bx_mods {S : Nat → Prop} (hm : Mods S w w') (hS : ∀ i, i < n → ¬ S (c0 + i)) (hw : c0 + n ≤ w.heap.size) : ∀ q, BX w' c0 n q → BX w c0 n q := by
  rintro q ⟨i, cp, sx, rx, j, bf, hi, hh, hj⟩
  rw [hm.block _ (by omega) (hS i hi)] at hh
  exact ⟨i, cp, sx, rx, j, bf, hi, hh, hj⟩
end
/-- What is turned elsewhere leaves the lanes. -/
theorem LN.mods {TL TC TE : Nat} {w w' : World} {g ga c0 n size : Nat} {Q : List (List Value)} {S : Nat → Prop} (h : LN TL TC TE w g ga c0 n size Q) (hm : Mods S w w') (h1 : ¬ S g) (h2 : ¬ S ga) (h3 : ∀ i, i < n → ¬ S (c0 + i)) (h4 : ∀ q, BX w c0 n q → ¬ S q) : LN TL TC TE w' g ga c0 n size Q where
  hs := (hm.block g (Array.getElem?_eq_some_iff.1 h.hs).1 h1).trans h.hs
  ha := (hm.block ga (Array.getElem?_eq_some_iff.1 h.ha).1 h2).trans h.ha
  hl := h.hl
  hn := h.hn
  hc := fun i l hi => by
    have hin : i < n := by have := (List.getElem?_eq_some_iff.1 hi).1; have := h.hl; omega
    obtain ⟨buf, s, r, b1, b2, b3, b4⟩ := h.hc i l hi
    refine ⟨buf, s, r, (hm.block _ (Array.getElem?_eq_some_iff.1 b1).1 (h3 i hin)).trans b1, b2, b3, fun j x hx => ?_⟩
    obtain ⟨q, hq1, hq2⟩ := b4 j x hx
    exact ⟨q, hq1, (hm.block q (Array.getElem?_eq_some_iff.1 hq2).1 (h4 q ⟨i, size, s, r, j, buf, hin, b1, hq1⟩)).trans hq2⟩
set_option maxRecDepth 100000 in
set_option maxHeartbeats 1000000 in
theorem putB {w : World} {g ga c0 n size : Nat} {Q : List (List Value)} (h : LN 113 111 3 w g ga c0 n size Q) (k : Nat) (l : List Value) (hk : Q[k]? = some l) (hr : l.length < size) (x : Int) :
    Calls Try.prog 53 #[.pointer (some ⟨g, 0, none⟩), .int .i64 k, .int .i64 x] w fun e w' => e = .returned (.int .i64 0) ∧ LN 113 111 3 w' g ga c0 n size (Q.set k (l ++ [.int .i64 x])) ∧ Mods (CS c0 n) w w' ∧ ∀ q, BX w' c0 n q → BX w c0 n q ∨ w.heap.size ≤ q := by
  have hkn : k < n := by have := (List.getElem?_eq_some_iff.1 hk).1; have := h.hl; omega
  obtain ⟨buf, s, r, hb1, hb2, hb3, hb4⟩ := h.hc k l hk
  obtain ⟨w1, hw1⟩ : ∃ w1, w1 = w.alloc (.cells #[.int .i64 x] 3) := ⟨_, rfl⟩
  have hroom : buf.size < size := by omega
  have h1 : LN 113 111 3 w1 g ga c0 n size Q := by rw [hw1]; exact h.below (alloc_below w _)
  have hc1 : w1.heap[c0 + k]? = some (.chan size buf false s r false) := by rw [hw1, Below.heap_alloc _ _ _ (Array.getElem?_eq_some_iff.1 hb1).1]; exact hb1
  have PT := Lib.hid (h.put hk hr (.int .i64 x) hb1)
  have PX := Lib.hid (bx_put (TE := 3) (x := .int .i64 x) (c0 := c0) (n := n) hb1 hkn)
  have hn0 : ((n : Int) == 0) = false := by simp; omega
  have H1 := Lib.hid h1
  have HC := Lib.hid hc1
  have HB := Lib.hid hb1
  have HW := Lib.hid hw1
  clear h h1 hc1 hb1 hb4 hw1
  refine calls_of_wpB Try.func53 rfl (by rintro _ ⟨h, _⟩; cases h) (fun b hbk hbf => ?_)
  simp only [Try.ntmps53, List.size_toArray, List.length_cons, List.length_nil, Nat.reduceAdd, Nat.reduceSub, Array.replicate_succ, Array.replicate_zero, List.push_toArray, List.append_toArray, List.nil_append, List.cons_append]
  refine wpB_seq_k (fun K hK => ?_)
  go_wp2_with fail
  rw [← HW.out]
  refine wpB_seq_k (fun K hK => ?_)
  go_wp2_with (go_at_call 45; refine (countL H1.out).mono ?_; rintro e w' ⟨rfl, rfl⟩)
  refine wpB_seq_k (fun K hK => ?_)
  go_wp2_with (go_at_call 78; refine (atL H1.out k hkn).mono ?_; rintro e w' ⟨rfl, rfl⟩)
  have he := eqc111 (c0 + k)
  refine wpB_seq_k (fun K hK => ?_)
  go_wp2_with fail
  clear he
  refine wpB_seq_k (fun K hK => ?_)
  go_wp2_with fail
  refine wpB_seq_b (fun K hK => ?_)
  refine wpB_select (v := .tuple #[goInt 0, .bool false]) (w' := w1.setChan (c0 + k) size (buf.push (.pointer (some ⟨w.heap.size, 0, none⟩))) false (s + 1) r false) (fun k' cs => ?_) ?_
  · refine step_lone_select_send_room (z' := .pointer none) (stepG_comm (cases := #[scase (c0 + k) (.pointer (some ⟨w.heap.size, 0, none⟩)) (.pointer none)]) (blocking := false) (shape := .select) (w' := w1) rfl rfl (by rw [hbk]; decide) (by simp [go_sem, execOp, scase, Act.eval])) HC.out hroom
  go_wp2_with fail
  refine wpB_of ?_
  go_wp2_with fail
  go_ret
  have pt := PT.out
  have px := PX.out
  rw [← HW.out] at pt px
  exact ⟨rfl, pt.1, pt.2, px⟩
set_option maxRecDepth 100000 in
set_option maxHeartbeats 1000000 in
theorem takeB {w : World} {g ga c0 n size : Nat} {Q : List (List Value)} (h : LN 113 111 3 w g ga c0 n size Q) (k : Nat) (x : Int) (l : List Value) (hk : Q[k]? = some (.int .i64 x :: l)) :
    Calls Try.prog 54 #[.pointer (some ⟨g, 0, none⟩), .int .i64 k] w fun e w' => e = .returned (.tuple #[.int .i64 x, .bool true]) ∧ LN 113 111 3 w' g ga c0 n size (Q.set k l) ∧ Mods (CS c0 n) w w' ∧ ∀ q, BX w' c0 n q → BX w c0 n q ∨ w.heap.size ≤ q := by
  have hkn : k < n := by have := (List.getElem?_eq_some_iff.1 hk).1; have := h.hl; omega
  obtain ⟨buf, s, r, hb1, hb2, hb3, hb4⟩ := h.hc k _ hk
  obtain ⟨t1, t2, q, t3, t4, t5, t6⟩ := h.take hk hb1
  have hcell : (w.setChan (c0 + k) size (buf.extract 1 buf.size) false s (r + 1) false).cell? ⟨q, 0, none⟩ = some (.int .i64 x) := by
    rw [cell_of_row (cs := #[.int .i64 x]) (t := 3) (fr := (0, 0))]
    · rfl
    · rw [setChan_far _ _ _ _ _ _ _ (fun e => t5 e.symm)]; exact t4
  have PX := Lib.hid (bx_take (c0 := c0) (n := n) hb1 hkn)
  have H1 := Lib.hid h
  have HC := Lib.hid hb1
  have T1 := Lib.hid t1
  have T2 := Lib.hid t2
  clear h hb1 hb2 hb3 hb4 t1 t2 t4
  refine calls_of_wpB Try.func54 rfl (by rintro _ ⟨h, _⟩; cases h) (fun b hbk hbf => ?_)
  simp only [Try.ntmps54, List.size_toArray, List.length_cons, List.length_nil, Nat.reduceAdd, Nat.reduceSub, Array.replicate_succ, Array.replicate_zero, List.push_toArray, List.append_toArray, List.nil_append, List.cons_append]
  refine wpB_seq_k (fun K hK => ?_)
  go_wp2_with fail
  refine wpB_seq_k (fun K hK => ?_)
  go_wp2_with (go_at_call 78; refine (atL H1.out k hkn).mono ?_; rintro e w' ⟨rfl, rfl⟩)
  refine wpB_seq_b (fun K hK => ?_)
  refine wpB_select (v := .tuple #[goInt 0, .bool true, buf.getD 0 undef]) (w' := w.setChan (c0 + k) size (buf.extract 1 buf.size) false s (r + 1) false) (fun k' cs => ?_) ?_
  · refine step_lone_select_recv_buf (z := .pointer none) (stepG_comm (cases := #[rcase (c0 + k) (.pointer none)]) (blocking := false) (shape := .select) (w' := w) rfl rfl (by rw [hbk]; decide) (by simp [go_sem, execOp, rcase, Act.eval])) HC.out t6
  rw [t3]
  clear t3 t6
  go_wp2_with fail
  refine wpB_of ?_
  go_wp2_with fail
  go_ret2
  exact ⟨rfl, T1.out, T2.out, PX.out⟩
end Go.Proofs.Ytfdihgahegfamaa
