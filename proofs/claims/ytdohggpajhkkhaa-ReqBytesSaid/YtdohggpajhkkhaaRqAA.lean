/-
  The contract of the document's Same. Condition: the values read as requests.
-/
import Derived.Test.YtdohggpajhkkhaaRqZ
namespace Go.Proofs.Ytdohggpajhkkhaa
open Go.RowKit
theorem wpList_midO {ops : Array Oper} {rest : List Oper} {o : Oper} {a : Act} {w : World} {Q : Exit → Act → World → Prop} (ty : TypeId) (x : Operand) (ho : o.op = .load ty x) (hw : Region.wanted o (yielded ops a.tmps) = true)
    (b k : Nat) (hx : a.eval x = .pointer (some ⟨b, k, none⟩)) (cs : List Value) (d : TypeDesc) (hc : w.rangeAt b k cs)
    (hu : Try.prog.underlying ty = some d) (hd : d.isRow = true) (hi : (Try.prog.info? ty).map (·.size) = some cs.length)
    (h : wpList Try.prog ops Q rest (a.put o.dst (.agg cs.toArray)) w) : wpList Try.prog ops Q (o :: rest) a w := wpList_mid_met hw ty x ho b k hx cs d hc hu hd hi h
theorem eqArr (d : Nat) (t e n sz : Nat) (ht : Try.prog.underlying t = some (.array n e)) (hsz : ∀ w, (sizeOf e).run Try.prog w = .ok sz w) (X Y : Array Value) (f : Nat → Bool) (w : World)
    (hs : ∀ i, i < n → ∃ a b, (part e X (i * sz)).run Try.prog w = .ok a w ∧ (part e Y (i * sz)).run Try.prog w = .ok b w ∧ (Op.equalIn d e a b).run Try.prog w = .ok (f i) w) :
    (Op.equalIn (d + 1) t (.agg X) (.agg Y)).run Try.prog w = .ok ((List.range n).all f) w := by
  rw [List.range_eq_range', Op.equalIn]
  simp only [Sem.run_bind, run_underlying ht, Result.andThen_ok, hsz, Std.Legacy.Range.forIn_eq_forIn_range', Std.Legacy.Range.size, Nat.sub_zero, Nat.add_sub_cancel, Nat.div_one]
  have hl : ∀ i ∈ List.range' 0 n 1, i < n := fun i hi => by simpa using (List.mem_range'_1.1 hi).2
  generalize List.range' 0 n 1 = l at hl ⊢
  induction l with
  | nil => simp
  | cons i l ih =>
    obtain ⟨a, b, px, py, pe⟩ := hs i (hl i (by simp))
    simp only [List.forIn_cons, Sem.run_bind, px, py, pe, Result.andThen_ok, List.all_cons]
    cases hb : f i
    · simp
    · simp only [Bool.not_true, Bool.false_eq_true, if_false, Sem.run_pure, Result.andThen_ok, Bool.true_and]
      exact ih fun j hj => hl j (by simp [hj])
theorem c8_at (p : Rq) (i : Nat) (hi : i < 8) : (c8 p).toArray[i]? = some (.int .i64 (numA p i)) := by
  have h8 : i = 0 ∨ i = 1 ∨ i = 2 ∨ i = 3 ∨ i = 4 ∨ i = 5 ∨ i = 6 ∨ i = 7 := by omega
  rcases h8 with rfl | rfl | rfl | rfl | rfl | rfl | rfl | rfl <;> rfl
def nEq (a b : Rq) : Bool := (List.range 8).all fun i => numA a i == numA b i
def kEq (a b : Rq) : Bool := (List.range 4).all fun i => decide (keyA a i = keyA b i)
theorem eq32 (a b : Rq) (w : World) : (Op.equalIn 10000 32 (.agg (c8 a).toArray) (.agg (c8 b).toArray)).run Try.prog w = .ok (nEq a b) w := by
  refine eqArr 9999 32 3 8 1 Try.underlying32 (fun w => by kernel_rfl) _ _ _ w fun i hi => ?_
  refine ⟨.int .i64 (numA a i), .int .i64 (numA b i), ?_, ?_, ?_⟩
  · exact part_int 3 .i64 Try.underlying3 _ _ _ (by rw [Nat.mul_one]; exact c8_at a i hi) w
  · exact part_int 3 .i64 Try.underlying3 _ _ _ (by rw [Nat.mul_one]; exact c8_at b i hi) w
  · exact run_equalIn_int w 9998 3 .i64 .i64 _ _ Try.underlying3
theorem part128 {p : Rq} (h : RQ p) (i : Nat) (hi : i < 4) (w : World) : (part 22 (c128 p).toArray (i * 32)).run Try.prog w = .ok (.agg (bcells (keyA p i))) w := by
  have k1 : (kb p.o).length = 32 := by rw [kb_len, h.o.1]
  have k2 : (kb p.f).length = 32 := by rw [kb_len, h.f.1]
  have k3 : (kb p.m).length = 32 := by rw [kb_len, h.m.1]
  have k4 : (kb p.x).length = 32 := by rw [kb_len, h.x.1]
  have e : ((c128 p).drop (i * 32)).take 32 = kb (keyA p i) := by
    unfold c128
    have h4 : i = 0 ∨ i = 1 ∨ i = 2 ∨ i = 3 := by omega
    rcases h4 with rfl | rfl | rfl | rfl
    · show (_ : List Value) = kb p.o
      rw [Nat.zero_mul, List.drop_zero, List.take_left' k1]
    · show (_ : List Value) = kb p.f
      rw [Nat.one_mul, List.drop_left' k1, List.take_left' k2]
    · show (_ : List Value) = kb p.m
      rw [show 2 * 32 = 32 + 32 from rfl, ← List.drop_drop, List.drop_left' k1, List.drop_left' k2, List.take_left' k3]
    · show (_ : List Value) = kb p.x
      rw [show 3 * 32 = 32 + (32 + 32) from rfl, ← List.drop_drop, ← List.drop_drop, List.drop_left' k1, List.drop_left' k2, List.drop_left' k3, List.take_of_length_le (by omega)]
  exact part_arr' 22 32 Try.underlying22 (by kernel_rfl) _ _ _ e w
theorem eq33 {a b : Rq} (ha : RQ a) (hb : RQ b) (w : World) : (Op.equalIn 10000 33 (.agg (c128 a).toArray) (.agg (c128 b).toArray)).run Try.prog w = .ok (kEq a b) w := by
  refine eqArr 9999 33 22 4 32 Try.underlying33 (fun w => by kernel_rfl) _ _ _ w fun i hi => ?_
  have k1 := (key35 (W := w.alloc (.cells (rc a (.slice none 0 0)).toArray 35)) ha (heap_alloc_new w _) i hi).1
  have k2 := (key35 (W := w.alloc (.cells (rc b (.slice none 0 0)).toArray 35)) hb (heap_alloc_new w _) i hi).1
  exact ⟨_, _, part128 ha i hi w, part128 hb i hi w, eqBytes 9997 22 32 Try.underlying22 _ _ k1.2 k2.2 k1.1 k2.1 w⟩
theorem all_eq {a b : Rq} (hk : a.k = b.k) (hn : nEq a b = true) (hkk : kEq a b = true) (hd : a.d = b.d) : sameB a b = true := by
  have e : a = b := by
    refine rq_ext hk fun l hl => ?_
    by_cases h1 : isN l = true
    · obtain ⟨i, hi, rfl⟩ := isN_lN h1
      unfold nEq at hn
      rw [List.all_eq_true] at hn
      have := hn i (List.mem_range.2 hi)
      have h2 : numA a i = numA b i := by simpa using this
      unfold valL
      rw [if_pos h1, if_pos h1]
      exact congrArg (fun z => [z]) h2
    · by_cases h2 : isK l = true
      · obtain ⟨i, hi, rfl⟩ := isK_lK h2
        unfold kEq at hkk
        rw [List.all_eq_true] at hkk
        have := hkk i (List.mem_range.2 hi)
        have h3 : keyA a i = keyA b i := by simpa using this
        unfold valL
        rw [if_neg h1, if_pos h2, if_neg h1, if_pos h2]
        exact h3
      · obtain rfl := not100 hl h1 h2
        exact hd
  rw [e]
  exact sameB_refl b
theorem same_no {a b : Rq} (ha : RQ a) (hb : RQ b) : (a.k ≠ b.k → sameB a b = false) ∧ (nEq a b = false → sameB a b = false) ∧ (kEq a b = false → sameB a b = false) ∧ (a.d ≠ b.d → sameB a b = false) := by
  have key : ∀ P : Prop, (a = b → ¬ P) → P → sameB a b = false := fun P h hp => by
    rw [Bool.eq_false_iff]
    intro e
    exact h (sameB_eq ha hb e) hp
  refine ⟨key _ (fun e h => h (by rw [e])), key _ (fun e h => ?_), key _ (fun e h => ?_), key _ (fun e h => h (by rw [e]))⟩
  · rw [e] at h
    have : nEq b b = true := by unfold nEq; rw [List.all_eq_true]; intro x _; simp
    rw [this] at h; cases h
  · rw [e] at h
    have : kEq b b = true := by unfold kEq; rw [List.all_eq_true]; intro x _; simp
    rw [this] at h; cases h
theorem range_c {W : World} {R : Nat} {p : Rq} {dv : Value} (h : W.heap[R]? = some (.cells (rc p dv).toArray 35 (0, 0))) : W.rangeAt R 1 (c8 p) ∧ W.rangeAt R 9 (c128 p) := by
  have l8 : (c8 p).length = 8 := rfl
  constructor
  · intro j v hj
    have hjl := (List.getElem?_eq_some_iff.1 hj).1
    rw [cell_of_row W R _ _ _ _ h, arr_at, rc_c, show Value.int .i64 p.k :: (c8 p ++ (c128 p ++ [dv])) = [Value.int .i64 p.k] ++ (c8 p ++ (c128 p ++ [dv])) from rfl, mid _ _ _ 1 j rfl hjl]
    exact hj
  · intro j v hj
    have hjl := (List.getElem?_eq_some_iff.1 hj).1
    rw [cell_of_row W R _ _ _ _ h, arr_at, rc_c, show Value.int .i64 p.k :: (c8 p ++ (c128 p ++ [dv])) = (Value.int .i64 p.k :: c8 p) ++ (c128 p ++ [dv]) from rfl, mid _ _ _ 9 j (by simp [l8]) hjl]
    exact hj
set_option maxRecDepth 100000 in
set_option maxHeartbeats 600000 in
theorem sameD {a b : Rq} (ha : RQ a) (hb : RQ b) (dv du : Value) (w : World) (hd : Sees w dv a.d) (he : Sees w du b.d) :
    Calls Try.prog 14 #[.agg (rc a dv).toArray, .agg (rc b du).toArray] w fun e w' => e = .returned (.bool (sameB a b)) ∧ Below w.heap.size w w' := by
  obtain ⟨x1, cp1, rfl, _⟩ := hd.form
  obtain ⟨x2, cp2, rfl, _⟩ := he.form
  obtain ⟨w1, hw1⟩ : ∃ w1, w1 = w.alloc (.cells (rc a (.slice x1 a.d.length cp1)).toArray 35) := ⟨_, rfl⟩
  obtain ⟨w2, hw2⟩ : ∃ w2, w2 = w1.alloc (.cells (rc b (.slice x2 b.d.length cp2)).toArray 35) := ⟨_, rfl⟩
  have z1 : w1.heap.size = w.heap.size + 1 := by rw [hw1]; simp
  have b1 : Below w.heap.size w w1 := by rw [hw1]; exact (Below.refl _ _).alloc (Nat.le_refl _) _
  have b2 : Below w1.heap.size w1 w2 := by rw [hw2]; exact (Below.refl _ _).alloc (Nat.le_refl _) _
  have g1 : w2.heap[w.heap.size]? = some (.cells (rc a (.slice x1 a.d.length cp1)).toArray 35 (0, 0)) := by rw [b2.block _ (by omega), hw1]; exact heap_alloc_new w _
  have g2 : w2.heap[w.heap.size + 1]? = some (.cells (rc b (.slice x2 b.d.length cp2)).toArray 35 (0, 0)) := by rw [hw2, ← z1]; exact heap_alloc_new w1 _
  have bb : Below w.heap.size w w2 := b1.trans (b2.mono (by omega))
  have BE := Lib.hid bb
  obtain ⟨ka, _, da⟩ := row35 ha g1
  obtain ⟨kb', _, db⟩ := row35 hb g2
  have RA := Lib.hid (range_c g1)
  have RB := Lib.hid (range_c g2)
  have ca := (hd.below bb).str
  have cb := (he.below bb).str
  have se := str_eq a.d b.d hd.1 he.1
  have E32 := Lib.hid (eq32 a b)
  have E33 := Lib.hid (eq33 ha hb)
  have I8a : Hid ((Try.prog.info? 32).map (·.size) = some (c8 a).length) := by show _ = _; kernel_rfl
  have I8b : Hid ((Try.prog.info? 32).map (·.size) = some (c8 b).length) := by show _ = _; kernel_rfl
  have i33 : (Try.prog.info? 33).map (·.size) = some 128 := by kernel_rfl
  have IKa : Hid ((Try.prog.info? 33).map (·.size) = some (c128 a).length) := by show _ = _; rw [c128_len ha]; exact i33
  have IKb : Hid ((Try.prog.info? 33).map (·.size) = some (c128 b).length) := by show _ = _; rw [c128_len hb]; exact i33
  have AE := Lib.hid (@all_eq a b)
  have NE := Lib.hid (same_no ha hb)
  have HW1 := Lib.hid hw1
  have HW2 := Lib.hid hw2
  clear hw1 hw2 z1 b1 b2 g1 g2 bb i33 hd he
  generalize (rc a (.slice x1 a.d.length cp1)).toArray = CA at *
  generalize (rc b (.slice x2 b.d.length cp2)).toArray = CB at *
  generalize c8 a = A8 at *
  generalize c8 b = B8 at *
  generalize c128 a = AK at *
  generalize c128 b = BK at *
  generalize hs : sameB a b = sb at *
  clear hs
  have CAD := Lib.hid ca
  have CBD := Lib.hid cb
  have SE := Lib.hid se
  clear ca cb se ha hb
  generalize strOfNums a.d = SA at *
  generalize strOfNums b.d = SB at *
  by_cases hk : a.k = b.k
  · have d1 : (a.k == b.k) = true := beq_iff_eq.2 hk
    have q1 := E32.out
    cases hn : nEq a b with
    | false =>
      have r := Lib.hid (NE.out.2.1 hn)
      rw [hn] at q1
      clear hk hn AE NE
      have Q1 := Lib.hid q1
      clear q1
      generalize a.k = k1 at *
      generalize b.k = k2 at *
      go_enter Try.func14, Try.ntmps14
      go_upto_region 1 with (fail)
      rw [← HW1.out, ← HW2.out]
      go_wp2_with (first | (refine wpList_midO 32 (.tmp 11) rfl rfl w.heap.size 1 rfl A8 _ RA.out.1 Try.underlying32 rfl I8a.out ?_) | (refine wpList_midO 32 (.tmp 13) rfl rfl (w.heap.size + 1) 1 rfl B8 _ RB.out.1 Try.underlying32 rfl I8b.out ?_))
      rw [Q1.out]
      go_simp
      go_wp2
      go_ret
      exact ⟨by rw [r.out]; rfl, BE.out⟩
    | true =>
      rw [hn] at q1
      have Q1 := Lib.hid q1
      clear q1
      have q2 := E33.out
      cases hq : kEq a b with
      | false =>
        have r := Lib.hid (NE.out.2.2.1 hq)
        rw [hq] at q2
        have Q2 := Lib.hid q2
        clear hk hn hq AE NE q2
        generalize a.k = k1 at *
        generalize b.k = k2 at *
        go_enter Try.func14, Try.ntmps14
        go_upto_region 1 with (fail)
        rw [← HW1.out, ← HW2.out]
        go_wp2_with (first | (refine wpList_midO 32 (.tmp 11) rfl rfl w.heap.size 1 rfl A8 _ RA.out.1 Try.underlying32 rfl I8a.out ?_) | (refine wpList_midO 32 (.tmp 13) rfl rfl (w.heap.size + 1) 1 rfl B8 _ RB.out.1 Try.underlying32 rfl I8b.out ?_))
        rw [Q1.out]
        go_simp
        go_wp2_with (first | (refine wpList_midO 33 (.tmp 18) rfl rfl w.heap.size 9 rfl AK _ RA.out.2 Try.underlying33 rfl IKa.out ?_) | (refine wpList_midO 33 (.tmp 20) rfl rfl (w.heap.size + 1) 9 rfl BK _ RB.out.2 Try.underlying33 rfl IKb.out ?_))
        rw [Q2.out]
        go_simp
        go_wp2
        go_ret
        exact ⟨by rw [r.out]; rfl, BE.out⟩
      | true =>
        rw [hq] at q2
        have Q2 := Lib.hid q2
        clear q2
        have ca := CAD.out
        have cb := CBD.out
        by_cases hd : a.d = b.d
        · have r := Lib.hid (AE.out hk hn hq hd)
          have se := SE.out
          rw [decide_eq_true hd] at se
          clear hk hn hq hd AE NE SE
          generalize a.k = k1 at *
          generalize b.k = k2 at *
          go_enter Try.func14, Try.ntmps14
          go_upto_region 1 with (fail)
          rw [← HW1.out, ← HW2.out]
          go_wp2_with (first | (refine wpList_midO 32 (.tmp 11) rfl rfl w.heap.size 1 rfl A8 _ RA.out.1 Try.underlying32 rfl I8a.out ?_) | (refine wpList_midO 32 (.tmp 13) rfl rfl (w.heap.size + 1) 1 rfl B8 _ RB.out.1 Try.underlying32 rfl I8b.out ?_))
          rw [Q1.out]
          go_simp
          go_wp2_with (first | (refine wpList_midO 33 (.tmp 18) rfl rfl w.heap.size 9 rfl AK _ RA.out.2 Try.underlying33 rfl IKa.out ?_) | (refine wpList_midO 33 (.tmp 20) rfl rfl (w.heap.size + 1) 9 rfl BK _ RB.out.2 Try.underlying33 rfl IKb.out ?_))
          rw [Q2.out]
          go_simp
          go_wp2
          go_ret
          exact ⟨by rw [r.out]; rfl, BE.out⟩
        · have r := Lib.hid (NE.out.2.2.2 hd)
          have se := SE.out
          rw [decide_eq_false hd] at se
          clear hk hn hq hd AE NE SE
          generalize a.k = k1 at *
          generalize b.k = k2 at *
          go_enter Try.func14, Try.ntmps14
          go_upto_region 1 with (fail)
          rw [← HW1.out, ← HW2.out]
          go_wp2_with (first | (refine wpList_midO 32 (.tmp 11) rfl rfl w.heap.size 1 rfl A8 _ RA.out.1 Try.underlying32 rfl I8a.out ?_) | (refine wpList_midO 32 (.tmp 13) rfl rfl (w.heap.size + 1) 1 rfl B8 _ RB.out.1 Try.underlying32 rfl I8b.out ?_))
          rw [Q1.out]
          go_simp
          go_wp2_with (first | (refine wpList_midO 33 (.tmp 18) rfl rfl w.heap.size 9 rfl AK _ RA.out.2 Try.underlying33 rfl IKa.out ?_) | (refine wpList_midO 33 (.tmp 20) rfl rfl (w.heap.size + 1) 9 rfl BK _ RB.out.2 Try.underlying33 rfl IKb.out ?_))
          rw [Q2.out]
          go_simp
          go_wp2
          go_ret
          exact ⟨by rw [r.out]; rfl, BE.out⟩
  · have d1 : (a.k == b.k) = false := beq_eq_false_iff_ne.2 hk
    have r := Lib.hid (NE.out.1 hk)
    clear hk AE NE
    generalize a.k = k1 at *
    generalize b.k = k2 at *
    go_enter Try.func14, Try.ntmps14
    go_upto_region 1 with (fail)
    rw [← HW1.out, ← HW2.out]
    go_wp2
    go_ret
    exact ⟨by rw [r.out]; rfl, BE.out⟩
end Go.Proofs.Ytdohggpajhkkhaa
