/-
  Statuses as nineteen numbers, compared; numbers in memory; the contract of gathered. Condition: the numbers are of 64 digits.
-/
import Derived.Test.YtabopcfhonkecaaRpG
namespace Go.Proofs.Ytabopcfhonkecaa
open Go.RowKit
theorem eqArr (d : Nat) (t e n sz : Nat) (ht : Try.prog.underlying t = some (.array n e)) (hsz : ∀ w, (sizeOf e).run Try.prog w = .ok sz w) (X Y : Array Value) (f : Nat → Bool) (w : World)
    (hs : ∀ i, i < n → ∃ a b, (part e X (i * sz)).run Try.prog w = .ok a w ∧ (part e Y (i * sz)).run Try.prog w = .ok b w ∧ (Op.equalIn d e a b).run Try.prog w = .ok (f i) w) :
    (Op.equalIn (d + 1) t (.agg X) (.agg Y)).run Try.prog w = .ok ((List.range n).all f) w := by
  rw [List.range_eq_range', Op.equalIn]
  simp only [Sem.run_bind, run_underlying ht, Result.andThen_ok, hsz, Std.Legacy.Range.forIn_eq_forIn_range', Std.Legacy.Range.size, Nat.sub_zero, Nat.add_sub_cancel, Nat.div_one]
  have hl : ∀ i ∈ List.range' 0 n 1, i < n := fun i hi => by simpa using (List.mem_range'_1.1 hi).2
  generalize List.range' 0 n 1 = l at hl ⊢
  induction l with
  | nil => simp
  | cons i l ih =>
    obtain ⟨a, b, px, py, pe⟩ := hs i (hl i (by simp))
    simp only [List.forIn_cons, Sem.run_bind, px, py, pe, Result.andThen_ok, List.all_cons]
    cases hb : f i
    · simp
    · simp only [Bool.not_true, Bool.false_eq_true, if_false, Sem.run_pure, Result.andThen_ok, Bool.true_and]
      exact ih fun j hj => hl j (by simp [hj])
def sc (L : List Int) : List Value := L.map (Value.int .i64)
theorem sc_len (L : List Int) : (sc L).length = L.length := by simp [sc]
theorem sc_at (L : List Int) (i : Nat) (h : i < L.length) : (sc L).toArray[i]? = some (.int .i64 (nth L i)) := by simp [sc, nth, List.getD, h]
theorem sc_one (L : List Int) : (sc L).toArray.all (·.oneCell') = true := by simp [sc, Value.oneCell']
theorem i41 {L : List Int} (h : L.length = 19) : (Try.prog.info? 41).map (·.size) = some (sc L).toArray.size := by
  rw [List.size_toArray, sc_len, h]
  kernel_rfl
theorem ext_nth {X Y : List Int} (h : X.length = Y.length) (hh : ∀ i, i < X.length → nth X i = nth Y i) : X = Y := by
  refine List.ext_getElem h fun i h1 h2 => ?_
  have := hh i h1
  simpa [nth, List.getD, h1, h2] using this
theorem part39 (L : List Int) (o : Nat) (w : World) : (part 39 (sc L).toArray o).run Try.prog w = .ok (.agg (sc ((L.drop o).take 8)).toArray) w := by
  have hi : (Try.prog.info? 39).map (·.size) = some 8 := by kernel_rfl
  have ht : Try.prog.underlying 39 = some (.array 8 3) := by kernel_rfl
  cases hq : Try.prog.info? 39 with
  | none => simp [hq] at hi
  | some i =>
    have hs : i.size = 8 := by simpa [hq] using hi
    simp [part, isAgg, run_underlying ht, sizeOf, typeInfo, hq, hs]
    simp [sc]
theorem nth_part (L : List Int) (o i : Nat) (ho : o + 8 ≤ L.length) (hi : i < 8) : (sc ((L.drop o).take 8)).toArray[i]? = some (.int .i64 (nth L (o + i))) := by
  have hl : ((L.drop o).take 8).length = 8 := by rw [List.length_take, List.length_drop]; omega
  rw [sc_at _ i (by omega)]
  congr 2
  unfold nth
  rw [List.getD_eq_getElem?_getD, List.getD_eq_getElem?_getD, List.getElem?_take_of_lt hi, List.getElem?_drop]
theorem eq39 (X Y : List Int) (o : Nat) (hx : o + 8 ≤ X.length) (hy : o + 8 ≤ Y.length) (w : World) : (Op.equalIn 9999 39 (.agg (sc ((X.drop o).take 8)).toArray) (.agg (sc ((Y.drop o).take 8)).toArray)).run Try.prog w = .ok ((List.range 8).all fun i => nth X (o + i) == nth Y (o + i)) w := by
  refine eqArr 9998 39 3 8 1 (by kernel_rfl) (fun w => by kernel_rfl) _ _ _ w fun i hi => ?_
  refine ⟨.int .i64 (nth X (o + i)), .int .i64 (nth Y (o + i)), ?_, ?_, ?_⟩
  · exact part_int 3 .i64 Try.underlying3 _ _ _ (by rw [Nat.mul_one]; exact nth_part X o i hx hi) w
  · exact part_int 3 .i64 Try.underlying3 _ _ _ (by rw [Nat.mul_one]; exact nth_part Y o i hy hi) w
  · exact run_equalIn_int w 9997 3 .i64 .i64 _ _ Try.underlying3
set_option maxRecDepth 100000 in
theorem eq41 {X Y : List Int} (hx : X.length = 19) (hy : Y.length = 19) (w : World) : (Op.equalIn 10000 41 (.agg (sc X).toArray) (.agg (sc Y).toArray)).run Try.prog w = .ok (decide (X = Y)) w := by
  rw [run_equalIn_struct w 9999 41 _ _ (by kernel_rfl) (by kernel_rfl)]
  have hf : (Try.prog.fieldsOf 41).toList.map (fun f => (decide (f.name ≠ "_"), f.type, f.offset)) = [(true, 3, 0), (true, 3, 1), (true, 3, 2), (true, 39, 3), (true, 39, 11)] := by kernel_rfl
  obtain ⟨f1, r1, e1, a1, b1, c1, g1⟩ := fields_cons hf
  obtain ⟨f2, r2, e2, a2, b2, c2, g2⟩ := fields_cons g1
  obtain ⟨f3, r3, e3, a3, b3, c3, g3⟩ := fields_cons g2
  obtain ⟨f4, r4, e4, a4, b4, c4, g4⟩ := fields_cons g3
  obtain ⟨f5, r5, e5, a5, b5, c5, g5⟩ := fields_cons g4
  have e6 : r5 = [] := by simpa using g5
  rw [e1, e2, e3, e4, e5, e6]
  rw [eqFields_int 9998 3 .i64 0 (by kernel_rfl) _ _ _ _ (sc_at X 0 (by omega)) (sc_at Y 0 (by omega)) f1 _ a1 b1 c1 _ w
    (eqFields_int 9998 3 .i64 1 (by kernel_rfl) _ _ _ _ (sc_at X 1 (by omega)) (sc_at Y 1 (by omega)) f2 _ a2 b2 c2 _ w
    (eqFields_int 9998 3 .i64 2 (by kernel_rfl) _ _ _ _ (sc_at X 2 (by omega)) (sc_at Y 2 (by omega)) f3 _ a3 b3 c3 _ w
    (eqFields_one 9999 39 3 _ _ _ _ _ w (part39 X 3 w) (part39 Y 3 w) (eq39 X Y 3 (by omega) (by omega) w) f4 _ a4 b4 c4 _
    (eqFields_one 9999 39 11 _ _ _ _ _ w (part39 X 11 w) (part39 Y 11 w) (eq39 X Y 11 (by omega) (by omega) w) f5 _ a5 b5 c5 _ (eqFields_nil _ _ _ _ w)))))]
  congr 1
  rw [Bool.eq_iff_iff]
  simp only [Bool.and_eq_true, decide_eq_true_iff, List.all_eq_true, List.mem_range, beq_iff_eq]
  constructor
  · rintro ⟨h0, h1, h2, h3, h4, _⟩
    refine ext_nth (hx.trans hy.symm) fun i hi => ?_
    by_cases j0 : i = 0
    · rw [j0]; exact h0
    by_cases j1 : i = 1
    · rw [j1]; exact h1
    by_cases j2 : i = 2
    · rw [j2]; exact h2
    by_cases j3 : i < 11
    · have := h3 (i - 3) (by omega)
      rwa [show 3 + (i - 3) = i by omega] at this
    · have := h4 (i - 11) (by omega)
      rwa [show 11 + (i - 11) = i by omega] at this
  · rintro rfl
    exact ⟨rfl, rfl, rfl, fun _ _ => rfl, fun _ _ => rfl, trivial⟩
/-- Numbers in memory. -/
def IS (w : World) (v : Value) (ns : List Int) : Prop := ∃ g c, v = .slice (some ⟨g, 0, none⟩) ns.length c ∧ g < w.heap.size ∧ ∀ i, i < ns.length → w.cell? ⟨g, i, none⟩ = some (.int .i64 (nth ns i))
theorem IS.below {w w' : World} {v : Value} {ns : List Int} (h : IS w v ns) (hb : Below w.heap.size w w') : IS w' v ns := by
  obtain ⟨g, c, rfl, hg, hc⟩ := h
  exact ⟨g, c, rfl, Nat.lt_of_lt_of_le hg hb.size, fun i hi => (hb.cell (p := ⟨g, i, none⟩) hg).trans (hc i hi)⟩
theorem is_row {W : World} {g c : Nat} {ns : List Int} {T : TypeId} (h : W.heap[g]? = some (.cells (sc ns).toArray T (0, 0))) : IS W (.slice (some ⟨g, 0, none⟩) ns.length c) ns :=
  ⟨g, c, rfl, blk_lt h, fun i hi => by rw [cell_row h]; exact sc_at ns i hi⟩
theorem be2_mod (n : Int) : be 2 (n % 65536) = be 2 n := by
  simp only [be, List.nil_append]
  rw [show n % 65536 / 256 % 256 = n / 256 % 256 by omega, show n % 65536 % 256 = n % 256 by omega]
def b2s (ns : List Int) : List Int := ns.flatMap (be 2)
theorem b2s_len (ns : List Int) : (b2s ns).length = 2 * ns.length := by
  unfold b2s
  induction ns with
  | nil => rfl
  | cons x l ih => rw [List.flatMap_cons, List.length_append, ih, be_len, List.length_cons]; omega
theorem b2s_byt (ns : List Int) : Byt (b2s ns) := by
  intro x hx
  obtain ⟨n, _, h⟩ := List.mem_flatMap.1 hx
  exact be_byt 2 n x h
theorem b2s_take (ns : List Int) (i : Nat) (h : i < ns.length) : b2s (ns.take (i + 1)) = b2s (ns.take i) ++ be 2 (nth ns i) := by
  unfold b2s
  rw [List.take_add_one, List.getElem?_eq_getElem h, List.flatMap_append]
  simp [nth, List.getD, h]
theorem put16m (n : Int) (W : World) : Calls Try.prog 21 #[.int .u16 (IntKind.u16.wrap n)] W (NewP W 2 (be 2 n)) := by
  have h : IntKind.u16.wrap n = n % 65536 := rfl
  rw [h, ← be2_mod n]
  exact putb16 _ (by omega) (by omega) W
set_option maxRecDepth 100000 in
set_option maxHeartbeats 4000000 in
theorem gatheredC (v : Value) (ns : List Int) (w : World) (h : IS w v ns) (hm : ns.length ≤ 100) : Calls Try.prog 31 #[v] w (OwnP w (b2s ns)) := by
  obtain ⟨g, c, rfl, hg, hc⟩ := h
  obtain ⟨m, hmm⟩ : ∃ m, m = ns.length := ⟨_, rfl⟩
  have CEL : Hid (∀ i, i < m → ∀ W, Below w.heap.size w W → W.cell? ⟨g, i, none⟩ = some (.int .i64 (nth ns i))) := fun i hi W hb => (hb.cell (p := ⟨g, i, none⟩) hg).trans (hc i (by omega))
  have TK : Hid (∀ i, i < m → b2s (ns.take (i + 1)) = b2s (ns.take i) ++ be 2 (nth ns i)) := fun i hi => b2s_take ns i (by omega)
  have TL : Hid (∀ i, i ≤ m → (b2s (ns.take i)).length = 2 * i) := fun i hi => by rw [b2s_len, List.length_take]; omega
  have ALL : Hid (b2s (ns.take m) = b2s ns) := by show _ = _; rw [hmm, List.take_length]
  have hmi : (m : Int) ≤ 100 := by omega
  have HM := Lib.hid hm
  rw [← hmm] at HM ⊢
  generalize b2s ns = L at ALL ⊢
  clear hg hc hmm hm
  go_enter Try.func31, Try.ntmps31
  go_wp2_with fail
  go_loopw [3, 8] (fun v3 v8 wr => ∃ i : Nat, i ≤ m ∧ v8 = .int .i64 (i : Int) ∧ ∃ x c, v3 = .slice x (b2s (ns.take i)).length c ∧ Own wr w.heap.size (.slice x (b2s (ns.take i)).length c) (b2s (ns.take i)) ∧ Below w.heap.size w wr) (fun _ v8 _ => m - (intOf v8).toNat)
  case atStart => exact ⟨0, by omega, rfl, none, 0, rfl, own_nil _ _, Below.refl _ _⟩
  case round =>
    obtain ⟨i, hi, rfl, x, c1, rfl, how, hb⟩ := hrel
    have HO := Lib.hid how
    have HB := Lib.hid hb
    clear how hb
    by_cases hlt : i < m
    · have hii : (i : Int) < (m : Int) := by omega
      have hci := CEL.out i hlt wr HB.out
      have P := Lib.hid (put16m (nth ns i))
      have EQ := Lib.hid (TK.out i hlt)
      have LI := Lib.hid (TL.out i hi)
      generalize nth ns i = z at hci P EQ
      go_wp2_with fail
      refine (P.out wr).mono ?_
      rintro e w2 ⟨q, rfl, hs, hb, _⟩
      have hB := (HB.out.trans (hb.mono HB.out.size))
      obtain ⟨x3, c3, w3, hr, ho', hgr, hb'⟩ := app (HO.out.below hb) hs (by rw [LI.out, be_len]; have := HM.out; omega) hB.size
      have HB2 := Lib.hid (hB.trans hb')
      have HO2 : Hid (Own w3 w.heap.size (.slice x3 (b2s (ns.take (i + 1))).length c3) (b2s (ns.take (i + 1)))) := by
        rw [EQ.out, List.length_append]; exact ho'
      have HV : Hid (Value.slice x3 ((b2s (ns.take i)).length + (be 2 z).length) c3 = .slice x3 (b2s (ns.take (i + 1))).length c3) := by show _ = _; rw [EQ.out, List.length_append]
      have HR := Lib.hid hr
      clear hr ho' hgr hb' hb hs hB hci P HO
      go_wp2_with (at_builtin; refine wpList_app rfl (.tmp 12) (.tmp 15) rfl rfl rfl rfl HR.out ?_)
      go_roundw
      case rel => exact ⟨i + 1, by omega, by go_num, x3, c3, HV.out, HO2.out, HB2.out⟩
      case measure => simp [intOf]; omega
    · have hge : ¬ (i : Int) < (m : Int) := by omega
      obtain rfl : i = m := by omega
      have FIN : Hid (Own wr w.heap.size (.slice x L.length c1) L) := by
        have h1 := HO.out
        rw [ALL.out] at h1
        exact h1
      have EL := ALL.out
      rw [EL]
      clear HO EL
      go_wp2_with fail
      go_ret
      exact ⟨_, _, rfl, FIN.out, HB.out⟩
end Go.Proofs.Ytabopcfhonkecaa
