/-
  Contracts of package lane at strings: New, Count, at, Put, Take. Condition: the lanes lie in memory as New lays them.
-/
import Derived.Test.YtfdihgahegfamaaU
namespace Go.Proofs.Ytfdihgahegfamaa
open Go.RowKit Go.Conc
theorem eqc121 (c : Nat) (w : World) : (binOp BinOp.eql 121 (Value.chan (some c)) (Value.chan none)).run Try.prog w = .ok (.bool false) w := by kernel_rfl
theorem eqn121 (w : World) : (binOp BinOp.eql 121 (Value.chan none) (Value.chan none)).run Try.prog w = .ok (.bool true) w := by kernel_rfl
theorem countT {w : World} {g ga c0 n size : Nat} {Q : List (List Value)} (h : LN 81 121 9 w g ga c0 n size Q) : Calls Try.prog 51 #[.pointer (some ⟨g, 0, none⟩)] w fun e w' => e = .returned (.int .i64 n) ∧ w = w' := by
  have c1 := h.c0'
  clear h
  go_enter Try.func51, Try.ntmps51
  go_wp2
  go_ret
  exact ⟨rfl, rfl⟩
set_option maxRecDepth 100000 in
theorem atT_no {w : World} {g ga c0 n size : Nat} {Q : List (List Value)} (h : LN 81 121 9 w g ga c0 n size Q) (i : Int) (hi : ¬ (0 ≤ i ∧ i < n)) : Calls Try.prog 80 #[.pointer (some ⟨g, 0, none⟩), .int .i64 i] w fun e w' => e = .returned (.chan none) ∧ w = w' := by
  have H := Lib.hid h
  clear h
  by_cases h0 : i < 0
  · clear hi
    go_enter Try.func80, Try.ntmps80
    go_wp2_with fail
    go_ret
    exact ⟨rfl, rfl⟩
  · have h2 : (n : Int) ≤ i := by omega
    clear hi
    go_enter Try.func80, Try.ntmps80
    go_wp2_with (go_at_call 51; refine (countT H.out).mono ?_; rintro e w' ⟨rfl, rfl⟩)
    go_ret
    exact ⟨rfl, rfl⟩
set_option maxRecDepth 100000 in
theorem atT {w : World} {g ga c0 n size : Nat} {Q : List (List Value)} (h : LN 81 121 9 w g ga c0 n size Q) (k : Nat) (hk : k < n) : Calls Try.prog 80 #[.pointer (some ⟨g, 0, none⟩), .int .i64 k] w fun e w' => e = .returned (.chan (some (c0 + k))) ∧ w = w' := by
  have H := Lib.hid h
  have c1 := h.c0'
  have c2 := h.ca hk
  have hn8 := h.hn
  have h3 : ¬ n ≤ k := by omega
  clear h
  go_enter Try.func80, Try.ntmps80
  go_wp2_with (go_at_call 51; refine (countT H.out).mono ?_; rintro e w' ⟨rfl, rfl⟩)
  go_ret
  exact ⟨rfl, rfl⟩
set_option maxRecDepth 100000 in
set_option maxHeartbeats 1000000 in
theorem putT {w : World} {g ga c0 n size : Nat} {Q : List (List Value)} (h : LN 81 121 9 w g ga c0 n size Q) (k : Nat) (l : List Value) (hk : Q[k]? = some l) (hr : l.length < size) (x : ByteArray) :
    Calls Try.prog 49 #[.pointer (some ⟨g, 0, none⟩), .int .i64 k, .string x] w fun e w' => e = .returned (.int .i64 0) ∧ LN 81 121 9 w' g ga c0 n size (Q.set k (l ++ [.string x])) ∧ Mods (CS c0 n) w w' := by
  have hkn : k < n := by have := (List.getElem?_eq_some_iff.1 hk).1; have := h.hl; omega
  obtain ⟨buf, s, r, hb1, hb2, hb3, hb4⟩ := h.hc k l hk
  obtain ⟨w1, hw1⟩ : ∃ w1, w1 = w.alloc (.cells #[.string x] 9) := ⟨_, rfl⟩
  have hroom : buf.size < size := by omega
  have h1 : LN 81 121 9 w1 g ga c0 n size Q := by rw [hw1]; exact h.below (alloc_below w _)
  have hc1 : w1.heap[c0 + k]? = some (.chan size buf false s r false) := by rw [hw1, Below.heap_alloc _ _ _ (Array.getElem?_eq_some_iff.1 hb1).1]; exact hb1
  have PT := Lib.hid (h.put hk hr (.string x) hb1)
  have hn0 : ((n : Int) == 0) = false := by simp; omega
  have H1 := Lib.hid h1
  have HC := Lib.hid hc1
  have HB := Lib.hid hb1
  have HW := Lib.hid hw1
  clear h h1 hc1 hb1 hb4 hw1
  refine calls_of_wpB Try.func49 rfl (by rintro _ ⟨h, _⟩; cases h) (fun b hbk hbf => ?_)
  simp only [Try.ntmps49, List.size_toArray, List.length_cons, List.length_nil, Nat.reduceAdd, Nat.reduceSub, Array.replicate_succ, Array.replicate_zero, List.push_toArray, List.append_toArray, List.nil_append, List.cons_append]
  refine wpB_seq_k (fun K hK => ?_)
  go_wp2_with fail
  rw [← HW.out]
  refine wpB_seq_k (fun K hK => ?_)
  go_wp2_with (go_at_call 51; refine (countT H1.out).mono ?_; rintro e w' ⟨rfl, rfl⟩)
  refine wpB_seq_k (fun K hK => ?_)
  go_wp2_with (go_at_call 80; refine (atT H1.out k hkn).mono ?_; rintro e w' ⟨rfl, rfl⟩)
  have he := eqc121 (c0 + k)
  refine wpB_seq_k (fun K hK => ?_)
  go_wp2_with fail
  clear he
  refine wpB_seq_k (fun K hK => ?_)
  go_wp2_with fail
  refine wpB_seq_b (fun K hK => ?_)
  refine wpB_select (v := .tuple #[goInt 0, .bool false]) (w' := w1.setChan (c0 + k) size (buf.push (.pointer (some ⟨w.heap.size, 0, none⟩))) false (s + 1) r false) (fun k' cs => ?_) ?_
  · refine step_lone_select_send_room (z' := .pointer none) (stepG_comm (cases := #[scase (c0 + k) (.pointer (some ⟨w.heap.size, 0, none⟩)) (.pointer none)]) (blocking := false) (shape := .select) (w' := w1) rfl rfl (by rw [hbk]; decide) (by simp [go_sem, execOp, scase, Act.eval])) HC.out hroom
  go_wp2_with fail
  refine wpB_of ?_
  go_wp2_with fail
  go_ret
  have pt := PT.out
  rw [← HW.out] at pt
  exact ⟨rfl, pt.1, pt.2⟩
set_option maxRecDepth 100000 in
set_option maxHeartbeats 1000000 in
theorem putT_full {w : World} {g ga c0 n size : Nat} {Q : List (List Value)} (h : LN 81 121 9 w g ga c0 n size Q) (k : Nat) (l : List Value) (hk : Q[k]? = some l) (hr : ¬ l.length < size) (x : ByteArray) :
    Calls Try.prog 49 #[.pointer (some ⟨g, 0, none⟩), .int .i64 k, .string x] w fun e w' => e = .returned (.int .i64 5) ∧ Below w.heap.size w w' := by
  have hkn : k < n := by have := (List.getElem?_eq_some_iff.1 hk).1; have := h.hl; omega
  obtain ⟨buf, s, r, hb1, hb2, hb3, hb4⟩ := h.hc k l hk
  obtain ⟨w1, hw1⟩ : ∃ w1, w1 = w.alloc (.cells #[.string x] 9) := ⟨_, rfl⟩
  have hroom : size ≤ buf.size := by omega
  have h1 : LN 81 121 9 w1 g ga c0 n size Q := by rw [hw1]; exact h.below (alloc_below w _)
  have hc1 : w1.heap[c0 + k]? = some (.chan size buf false s r false) := by rw [hw1, Below.heap_alloc _ _ _ (Array.getElem?_eq_some_iff.1 hb1).1]; exact hb1
  have hn0 : ((n : Int) == 0) = false := by simp; omega
  have H1 := Lib.hid h1
  have HC := Lib.hid hc1
  have HW := Lib.hid hw1
  clear h h1 hc1 hb1 hb4 hw1
  refine calls_of_wpB Try.func49 rfl (by rintro _ ⟨h, _⟩; cases h) (fun b hbk hbf => ?_)
  simp only [Try.ntmps49, List.size_toArray, List.length_cons, List.length_nil, Nat.reduceAdd, Nat.reduceSub, Array.replicate_succ, Array.replicate_zero, List.push_toArray, List.append_toArray, List.nil_append, List.cons_append]
  refine wpB_seq_k (fun K hK => ?_)
  go_wp2_with fail
  rw [← HW.out]
  refine wpB_seq_k (fun K hK => ?_)
  go_wp2_with (go_at_call 51; refine (countT H1.out).mono ?_; rintro e w' ⟨rfl, rfl⟩)
  refine wpB_seq_k (fun K hK => ?_)
  go_wp2_with (go_at_call 80; refine (atT H1.out k hkn).mono ?_; rintro e w' ⟨rfl, rfl⟩)
  have he := eqc121 (c0 + k)
  refine wpB_seq_k (fun K hK => ?_)
  go_wp2_with fail
  clear he
  refine wpB_seq_k (fun K hK => ?_)
  go_wp2_with fail
  refine wpB_seq_b (fun K hK => ?_)
  refine wpB_select (v := .tuple #[goInt (-1), .bool false]) (w' := w1) (fun k' cs => ?_) ?_
  · refine step_lone_select_send_full (z' := .pointer none) (stepG_comm (cases := #[scase (c0 + k) (.pointer (some ⟨w.heap.size, 0, none⟩)) (.pointer none)]) (blocking := false) (shape := .select) (w' := w1) rfl rfl (by rw [hbk]; decide) (by simp [go_sem, execOp, scase, Act.eval])) HC.out hroom
  go_wp2_with fail
  refine wpB_of ?_
  go_wp2_with fail
  go_ret
  exact ⟨rfl, by rw [HW.out]; exact alloc_below w _⟩
set_option maxRecDepth 100000 in
set_option maxHeartbeats 1000000 in
theorem putT_arg {w : World} {g ga c0 n size : Nat} {Q : List (List Value)} (h : LN 81 121 9 w g ga c0 n size Q) (h1n : 1 ≤ n) (i : Int) (hi : ¬ (0 ≤ i ∧ i < n)) (x : ByteArray) :
    Calls Try.prog 49 #[.pointer (some ⟨g, 0, none⟩), .int .i64 i, .string x] w fun e w' => e = .returned (.int .i64 1) ∧ Below w.heap.size w w' := by
  obtain ⟨w1, hw1⟩ : ∃ w1, w1 = w.alloc (.cells #[.string x] 9) := ⟨_, rfl⟩
  have h1 : LN 81 121 9 w1 g ga c0 n size Q := by rw [hw1]; exact h.below (alloc_below w _)
  have hn0 : ((n : Int) == 0) = false := by simp; omega
  have H1 := Lib.hid h1
  have HW := Lib.hid hw1
  have HI := Lib.hid hi
  clear h h1 hw1 hi
  refine calls_of_wpB Try.func49 rfl (by rintro _ ⟨h, _⟩; cases h) (fun b hbk hbf => ?_)
  simp only [Try.ntmps49, List.size_toArray, List.length_cons, List.length_nil, Nat.reduceAdd, Nat.reduceSub, Array.replicate_succ, Array.replicate_zero, List.push_toArray, List.append_toArray, List.nil_append, List.cons_append]
  refine wpB_seq_k (fun K hK => ?_)
  go_wp2_with fail
  rw [← HW.out]
  refine wpB_seq_k (fun K hK => ?_)
  go_wp2_with (go_at_call 51; refine (countT H1.out).mono ?_; rintro e w' ⟨rfl, rfl⟩)
  refine wpB_seq_k (fun K hK => ?_)
  go_wp2_with (go_at_call 80; refine (atT_no H1.out i HI.out).mono ?_; rintro e w' ⟨rfl, rfl⟩)
  have he := eqn121
  refine wpB_seq_k (fun K hK => ?_)
  go_wp2_with fail
  go_ret
  exact ⟨rfl, by rw [HW.out]; exact alloc_below w _⟩
set_option maxRecDepth 100000 in
set_option maxHeartbeats 1000000 in
theorem takeT {w : World} {g ga c0 n size : Nat} {Q : List (List Value)} (h : LN 81 121 9 w g ga c0 n size Q) (k : Nat) (x : ByteArray) (l : List Value) (hk : Q[k]? = some (.string x :: l)) :
    Calls Try.prog 47 #[.pointer (some ⟨g, 0, none⟩), .int .i64 k] w (TakeP 81 121 9 w g ga c0 n size (Q.set k l) (.string x)) := by
  have hkn : k < n := by have := (List.getElem?_eq_some_iff.1 hk).1; have := h.hl; omega
  obtain ⟨buf, s, r, hb1, hb2, hb3, hb4⟩ := h.hc k _ hk
  obtain ⟨t1, t2, q, t3, t4, t5, t6⟩ := h.take hk hb1
  have hcell : (w.setChan (c0 + k) size (buf.extract 1 buf.size) false s (r + 1) false).cell? ⟨q, 0, none⟩ = some (.string x) := by
    rw [cell_of_row (cs := #[.string x]) (t := 9) (fr := (0, 0))]
    · rfl
    · rw [setChan_far _ _ _ _ _ _ _ (fun e => t5 e.symm)]; exact t4
  have H1 := Lib.hid h
  have HC := Lib.hid hb1
  have T1 := Lib.hid t1
  have T2 := Lib.hid t2
  clear h hb1 hb2 hb3 hb4 t1 t2 t4
  refine calls_of_wpB Try.func47 rfl (by rintro _ ⟨h, _⟩; cases h) (fun b hbk hbf => ?_)
  simp only [Try.ntmps47, List.size_toArray, List.length_cons, List.length_nil, Nat.reduceAdd, Nat.reduceSub, Array.replicate_succ, Array.replicate_zero, List.push_toArray, List.append_toArray, List.nil_append, List.cons_append]
  refine wpB_seq_k (fun K hK => ?_)
  go_wp2_with fail
  refine wpB_seq_k (fun K hK => ?_)
  go_wp2_with (go_at_call 80; refine (atT H1.out k hkn).mono ?_; rintro e w' ⟨rfl, rfl⟩)
  refine wpB_seq_b (fun K hK => ?_)
  refine wpB_select (v := .tuple #[goInt 0, .bool true, buf.getD 0 undef]) (w' := w.setChan (c0 + k) size (buf.extract 1 buf.size) false s (r + 1) false) (fun k' cs => ?_) ?_
  · refine step_lone_select_recv_buf (z := .pointer none) (stepG_comm (cases := #[rcase (c0 + k) (.pointer none)]) (blocking := false) (shape := .select) (w' := w) rfl rfl (by rw [hbk]; decide) (by simp [go_sem, execOp, rcase, Act.eval])) HC.out t6
  rw [t3]
  clear t3 t6
  go_wp2_with fail
  refine wpB_of ?_
  go_wp2_with fail
  go_ret2
  exact ⟨rfl, T1.out, T2.out⟩
set_option maxRecDepth 100000 in
set_option maxHeartbeats 1000000 in
theorem takeT_no {w : World} {g ga c0 n size : Nat} {Q : List (List Value)} (h : LN 81 121 9 w g ga c0 n size Q) (k : Nat) (hk : Q[k]? = some []) :
    Calls Try.prog 47 #[.pointer (some ⟨g, 0, none⟩), .int .i64 k] w fun e w' => e = .returned (.tuple #[.string ⟨#[]⟩, .bool false]) ∧ Below w.heap.size w w' := by
  have hkn : k < n := by have := (List.getElem?_eq_some_iff.1 hk).1; have := h.hl; omega
  obtain ⟨buf, s, r, hb1, hb2, hb3, hb4⟩ := h.hc k _ hk
  rw [arr_nil hb2] at hb1
  have H1 := Lib.hid h
  have HC := Lib.hid hb1
  clear h hb1 hb2 hb3 hb4
  refine calls_of_wpB Try.func47 rfl (by rintro _ ⟨h, _⟩; cases h) (fun b hbk hbf => ?_)
  simp only [Try.ntmps47, List.size_toArray, List.length_cons, List.length_nil, Nat.reduceAdd, Nat.reduceSub, Array.replicate_succ, Array.replicate_zero, List.push_toArray, List.append_toArray, List.nil_append, List.cons_append]
  refine wpB_seq_k (fun K hK => ?_)
  go_wp2_with fail
  refine wpB_seq_k (fun K hK => ?_)
  go_wp2_with (go_at_call 80; refine (atT H1.out k hkn).mono ?_; rintro e w' ⟨rfl, rfl⟩)
  refine wpB_seq_b (fun K hK => ?_)
  refine wpB_select (v := .tuple #[goInt (-1), .bool false, .pointer none]) (w' := w) (fun k' cs => ?_) ?_
  · refine step_lone_select_default (z := .pointer none) (stepG_comm (cases := #[rcase (c0 + k) (.pointer none)]) (blocking := false) (shape := .select) (w' := w) rfl rfl (by rw [hbk]; decide) (by simp [go_sem, execOp, rcase, Act.eval])) HC.out
  go_wp2_with fail
  refine wpB_of ?_
  go_wp2_with fail
  go_ret2
  exact ⟨rfl, alloc_below w _⟩
set_option maxRecDepth 100000 in
set_option maxHeartbeats 1000000 in
theorem takeT_arg {w : World} {g ga c0 n size : Nat} {Q : List (List Value)} (h : LN 81 121 9 w g ga c0 n size Q) (i : Int) (hi : ¬ (0 ≤ i ∧ i < n)) :
    Calls Try.prog 47 #[.pointer (some ⟨g, 0, none⟩), .int .i64 i] w fun e w' => e = .returned (.tuple #[.string ⟨#[]⟩, .bool false]) ∧ Below w.heap.size w w' := by
  have H1 := Lib.hid h
  have HI := Lib.hid hi
  clear h hi
  refine calls_of_wpB Try.func47 rfl (by rintro _ ⟨h, _⟩; cases h) (fun b hbk hbf => ?_)
  simp only [Try.ntmps47, List.size_toArray, List.length_cons, List.length_nil, Nat.reduceAdd, Nat.reduceSub, Array.replicate_succ, Array.replicate_zero, List.push_toArray, List.append_toArray, List.nil_append, List.cons_append]
  refine wpB_seq_k (fun K hK => ?_)
  go_wp2_with fail
  refine wpB_seq_k (fun K hK => ?_)
  go_wp2_with (go_at_call 80; refine (atT_no H1.out i HI.out).mono ?_; rintro e w' ⟨rfl, rfl⟩)
  refine wpB_seq_b (fun K hK => ?_)
  refine wpB_select (v := .tuple #[goInt (-1), .bool false, .pointer none]) (w' := w) (fun k' cs => ?_) ?_
  · refine step_lone_select_recv_nil (z := .pointer none) (stepG_comm (cases := #[rcaseNil (.pointer none)]) (blocking := false) (shape := .select) (w' := w) rfl rfl (by rw [hbk]; decide) (by simp [go_sem, execOp, rcaseNil, Act.eval]))
  go_wp2_with fail
  refine wpB_of ?_
  go_wp2_with fail
  go_ret2
  exact ⟨rfl, alloc_below w _⟩
theorem newT_no (n s : Int) (h : n < 1 ∨ 8 < n ∨ s < 1 ∨ 8 < s) (w : World) :
    Calls Try.prog 79 #[.int .i64 n, .int .i64 s] w fun e w' => e = .returned (.tuple #[.pointer none, .int .i64 1]) ∧ w = w' := by
  by_cases h1 : n < 1
  · clear h
    go_enter Try.func79, Try.ntmps79
    go_wp2_with fail
    go_ret2
    exact ⟨rfl, rfl⟩
  by_cases h2 : 8 < n
  · clear h
    go_enter Try.func79, Try.ntmps79
    go_wp2_with fail
    go_ret2
    exact ⟨rfl, rfl⟩
  by_cases h3 : s < 1
  · clear h
    go_enter Try.func79, Try.ntmps79
    go_wp2_with fail
    go_ret2
    exact ⟨rfl, rfl⟩
  have h4 : 8 < s := by omega
  clear h
  go_enter Try.func79, Try.ntmps79
  go_wp2_with fail
  go_ret2
  exact ⟨rfl, rfl⟩
theorem info121 : (Try.prog.info? 121).map (fun i => (i.zero, i.size, i.bytes)) = some (some (.chan none), 1, 8) := by kernel_rfl
theorem info98 : (Try.prog.info? 98).map (fun i => (i.zero, i.size, i.bytes)) = some (some (.pointer none), 1, 8) := by kernel_rfl
theorem make79 (w : World) (n : Nat) (hn : n ≤ 65536) : (Instr.makeSlice 79 (.int .i64 n) (.int .i64 n)).run Try.prog w = .ok (.slice (some ⟨w.heap.size, 0, none⟩) n n) (w.alloc (.cells (Array.replicate n (.chan none)) 121)) := by
  obtain ⟨i, hi, hz0, hz1, hz2⟩ := info_parts info121
  have h := run_make (P := Try.prog) w 79 121 i (.chan none) Try.underlying79 hi hz0 .i64 .i64 n n (by omega) (by omega) (by rw [hz2]; omega) (by omega)
  simp only [Int.toNat_natCast] at h
  rw [h]
  have hm : madeCells (Value.chan none).cells (n * i.size) = Array.replicate n (.chan none) := by
    rw [hz1, Nat.mul_one]
    unfold madeCells
    apply Array.ext
    · simp
    · intro j h1 h2; simp [Value.cells, Nat.mod_one]
  rw [hm]
theorem mkchan121 (s : Nat) (h0 : s ≤ 8) (w : World) : (Instr.makeChan 121 (.int .i64 s)).run Try.prog w = .ok (.chan (some w.heap.size)) (w.alloc (.chan s #[] false 0 0 false)) := by
  obtain ⟨i, hi, hz0, hz1, hz2⟩ := info_parts info98
  simpa using run_makeChan (P := Try.prog) (w := w) Try.underlying121 hi .i64 s (by omega) (by rw [hz2]; omega)
set_option maxRecDepth 100000 in
set_option maxHeartbeats 2000000 in
theorem newT (n s : Nat) (h1 : 1 ≤ n) (h2 : n ≤ 8) (h3 : 1 ≤ s) (h4 : s ≤ 8) (w : World) : Calls Try.prog 79 #[.int .i64 n, .int .i64 s] w (NewP 81 121 9 w n s) := by
  have hm := make79 w n (by omega)
  have HMC := Lib.hid (mkchan121 s h4)
  go_enter Try.func79, Try.ntmps79
  go_wp2_with fail
  clear hm
  go_loopw [26] (fun i wr => ∃ k : Nat, k ≤ n ∧ i = .int .i64 k ∧ wr.heap.size = w.heap.size + 1 + k ∧ wr.heap[w.heap.size]? = some (.cells (crow (w.heap.size + 1) n k) 121 (0, 0)) ∧ (∀ i, i < k → wr.heap[w.heap.size + 1 + i]? = some (.chan s #[] false 0 0 false)) ∧ Below w.heap.size w wr) (fun i _ => n - (intOf i).toNat)
  case atStart =>
    refine ⟨0, by omega, rfl, by simp, ?_, fun i hi => by omega, alloc_below w _⟩
    rw [heap_alloc_new]
    congr 2
    apply Array.ext
    · simp [crow]
    · intro j h1 h2; simp [crow]
  case round =>
    obtain ⟨k, hk, rfl, hsz, hg, hch, hb⟩ := hrel
    by_cases hlt : k < n
    · have hmc := HMC.out wr
      have hg2 : (wr.alloc (.chan s #[] false 0 0 false)).heap[w.heap.size]? = some (.cells (crow (w.heap.size + 1) n k) 121 (0, 0)) := by
        rw [Below.heap_alloc _ _ _ (by omega)]; exact hg
      have hc2 : (wr.alloc (.chan s #[] false 0 0 false)).cell? ⟨w.heap.size, k, none⟩ = some (.chan none) := by
        rw [cell_of_row _ _ _ _ _ _ hg2]; simp [crow, hlt]
      have hf : (wr.alloc (.chan s #[] false 0 0 false)).frozen? ⟨w.heap.size, k, none⟩ = false := by simp [World.frozen?, hg2]
      have HS := Lib.hid (crow_set (w.heap.size + 1) n k hlt)
      have HG := Lib.hid hg
      have HB := Lib.hid hb
      have HC := Lib.hid hch
      have HZ := Lib.hid hsz
      have HG2 := Lib.hid hg2
      clear hg hb hch hsz hg2
      go_wp2_with fail
      go_roundw
      case rel =>
        have hs := HZ.out
        refine ⟨k + 1, by omega, by go_num, ?_, ?_, fun i hi => ?_, (HB.out.alloc HB.out.size _).setCell (Nat.le_refl _) _⟩
        · simp [World.setCell]; omega
        · rw [← HS.out]
          have := HG2.out
          rw [show w.heap.size + 1 + k = wr.heap.size by omega]
          simp [World.setCell, Array.getElem?_modify, this]
        · rw [Below.heap_setCell _ _ _ _ (by simp; omega)]
          by_cases hik : i < k
          · rw [Below.heap_alloc _ _ _ (by omega)]; exact HC.out i hik
          · rw [show w.heap.size + 1 + i = wr.heap.size by omega]; exact heap_alloc_new wr _
      case measure => simp [intOf]; omega
    · have hkn : k = n := by omega
      have HG := Lib.hid hg
      have HB := Lib.hid hb
      have HC := Lib.hid hch
      have HZ := Lib.hid hsz
      clear hg hb hch hsz
      go_wp2_with fail
      go_ret2
      have hs := HZ.out
      have hcr : crow (w.heap.size + 1) n k = ((List.range n).map fun i => Value.chan (some (w.heap.size + 1 + i))).toArray := by
        unfold crow
        congr 1
        apply List.map_congr_left
        intro i hi
        rw [if_pos (by have := List.mem_range.1 hi; omega)]
      have hb2 := HB.out.alloc HB.out.size (.cells #[.slice (some ⟨w.heap.size, 0, none⟩) n n] 81)
      refine ⟨wr.heap.size, w.heap.size, w.heap.size + 1, rfl, ⟨heap_alloc_new wr _, ?_, by simp, h2, fun i l hi => ?_⟩, by omega, HB.out.size, hb2⟩
      · rw [Below.heap_alloc _ _ _ (by omega), HG.out, hcr]
      · rw [List.getElem?_replicate] at hi
        split at hi
        · simp at hi
          subst hi
          exact ⟨#[], 0, 0, by rw [Below.heap_alloc _ _ _ (by omega)]; exact HC.out i (by omega), rfl, by simp, fun j x hx => by simp at hx⟩
        · simp at hi
end Go.Proofs.Ytfdihgahegfamaa
