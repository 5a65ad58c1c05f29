/-
  For every place and every string the law LaneNobody of package casematelaw10 returns true, and the arguments read afterwards as before: lanes that are nil, or that no call made, have nothing, and say so. Condition: none.
-/
import Derived.Test.YtfdihgahegfamaaZ
import Derived.ChangeMaps5
namespace Go.Proofs.Ytfdihgahegfamaa.laneNobody
open Go.ChangeShapes Go.WideShapes Go.ChangeAt Go.RowKit Go.ChangeMaps Go.Conc
/-- Lanes that are nil, or that no call made. -/
def Nob (w : World) (p : Value) : Prop := p = .pointer none ∨ ∃ g, p = .pointer (some ⟨g, 0, none⟩) ∧ w.heap[g]? = some (.cells #[.slice none 0 0] 81 (0, 0))
theorem Nob.below {w w' : World} {p : Value} (h : Nob w p) (hb : Below w.heap.size w w') : Nob w' p := by
  rcases h with h | ⟨g, rfl, h⟩
  · exact .inl h
  · exact .inr ⟨g, rfl, (hb.block g (Array.getElem?_eq_some_iff.1 h).1).trans h⟩
theorem countN {w : World} {p : Value} (h : Nob w p) : Calls Try.prog 51 #[p] w fun e w' => e = .returned (.int .i64 0) ∧ w = w' := by
  rcases h with rfl | ⟨g, rfl, h⟩
  · go_enter Try.func51, Try.ntmps51
    go_wp2
    go_ret
    exact ⟨rfl, rfl⟩
  · have c1 : w.cell? ⟨g, 0, none⟩ = some (.slice none 0 0) := by rw [cell_of_row _ _ _ _ _ _ h]; rfl
    clear h
    go_enter Try.func51, Try.ntmps51
    go_wp2
    go_ret
    exact ⟨rfl, rfl⟩
theorem atN {w : World} {p : Value} (h : Nob w p) (i : Int) : Calls Try.prog 80 #[p, .int .i64 i] w fun e w' => e = .returned (.chan none) ∧ w = w' := by
  have H := Lib.hid h
  clear h
  by_cases h0 : i < 0
  · go_enter Try.func80, Try.ntmps80
    go_wp2_with fail
    go_ret
    exact ⟨rfl, rfl⟩
  · have h1 : 0 ≤ i := by omega
    go_enter Try.func80, Try.ntmps80
    go_wp2_with (go_at_call 51; refine (countN H.out).mono ?_; rintro e w' ⟨rfl, rfl⟩)
    go_ret
    exact ⟨rfl, rfl⟩
theorem lenN {w : World} {p : Value} (h : Nob w p) (i : Int) : Calls Try.prog 50 #[p, .int .i64 i] w fun e w' => e = .returned (.int .i64 0) ∧ w = w' := by
  have H := Lib.hid h
  clear h
  have hl : ∀ (W : World) (ty : Nat), (Builtin.len_ #[121] ty #[.chan none]).run Try.prog W = .ok (.int .i64 0) W := fun W ty => by kernel_rfl
  go_enter Try.func50, Try.ntmps50
  go_wp2_with (go_at_call 80; refine (atN H.out i).mono ?_; rintro e w' ⟨rfl, rfl⟩)
  go_ret
  exact ⟨rfl, rfl⟩
theorem putN {w : World} {p : Value} (h : Nob w p) (i : Value) (s : ByteArray) : Calls Try.prog 49 #[p, i, .string s] w fun e w' => e = .returned (.int .i64 6) ∧ Below w.heap.size w w' := by
  have H := Lib.hid (h.below (alloc_below w (.cells #[.string s] 9)))
  clear h
  go_enter Try.func49, Try.ntmps49
  go_wp2_with (go_at_call 51; refine (countN H.out).mono ?_; rintro e w' ⟨rfl, rfl⟩)
  go_ret
  exact ⟨rfl, alloc_below w _⟩
set_option maxRecDepth 100000 in
set_option maxHeartbeats 1000000 in
theorem takeN {w : World} {p : Value} (h : Nob w p) (i : Int) : Calls Try.prog 47 #[p, .int .i64 i] w fun e w' => e = .returned (.tuple #[.string ⟨#[]⟩, .bool false]) ∧ Below w.heap.size w w' := by
  have H1 := Lib.hid h
  clear h
  refine calls_of_wpB Try.func47 rfl (by rintro _ ⟨h, _⟩; cases h) (fun b hbk hbf => ?_)
  simp only [Try.ntmps47, List.size_toArray, List.length_cons, List.length_nil, Nat.reduceAdd, Nat.reduceSub, Array.replicate_succ, Array.replicate_zero, List.push_toArray, List.append_toArray, List.nil_append, List.cons_append]
  refine wpB_seq_k (fun K hK => ?_)
  go_wp2_with fail
  refine wpB_seq_k (fun K hK => ?_)
  go_wp2_with (go_at_call 80; refine (atN H1.out i).mono ?_; rintro e w' ⟨rfl, rfl⟩)
  refine wpB_seq_b (fun K hK => ?_)
  refine wpB_select (v := .tuple #[goInt (-1), .bool false, .pointer none]) (w' := w) (fun k' cs => ?_) ?_
  · refine step_lone_select_recv_nil (z := .pointer none) (stepG_comm (cases := #[rcaseNil (.pointer none)]) (blocking := false) (shape := .select) (w' := w) rfl rfl (by rw [hbk]; decide) (by simp [go_sem, execOp, rcaseNil, Act.eval]))
  go_wp2_with fail
  refine wpB_of ?_
  go_wp2_with fail
  go_ret2
  exact ⟨rfl, alloc_below w _⟩
set_option maxRecDepth 100000 in
set_option maxHeartbeats 1000000 in
theorem nextN {w : World} {p : Value} (h : Nob w p) (i : Value) : Calls Try.prog 48 #[p, i] w fun e w' => e = .returned (.tuple #[.int .i64 0, .string ⟨#[]⟩, .bool false]) ∧ Below w.heap.size w w' := by
  obtain ⟨wl, hwl⟩ : ∃ wl, wl = (w.alloc (.cells #[.string ⟨#[]⟩] 9)).drew := ⟨_, rfl⟩
  have HB : Hid (Below w.heap.size w wl) := by show Below _ _ _; rw [hwl]; exact (alloc_below w _).drew
  have H1 : Hid (Nob wl p) := by show Nob _ _; rw [hwl]; exact h.below (alloc_below w _).drew
  have HW := Lib.hid hwl
  clear h hwl
  refine calls_of_wpB Try.func48 rfl (by rintro _ ⟨h, _⟩; cases h) (fun b hbk hbf => ?_)
  simp only [Try.ntmps48, List.size_toArray, List.length_cons, List.length_nil, Nat.reduceAdd, Nat.reduceSub, Array.replicate_succ, Array.replicate_zero, List.push_toArray, List.append_toArray, List.nil_append, List.cons_append]
  refine wpB_seq_k (fun K hK => ?_)
  go_wp2_with fail
  refine wpB_scope ?_
  refine wpB_seq_k (fun K hK => ?_)
  go_wp2_with fail
  go_region
  go_wp2_with fail
  rw [← HW.out]
  refine wpB_seq_k (fun K hK => ?_)
  go_wp2_with (go_at_call 51; refine (countN H1.out).mono ?_; rintro e w' ⟨rfl, rfl⟩)
  refine wpB_seq (wpB_of (wp_label ?_))
  show wpB _ _ _ _ _ _
  refine wpB_seq_b (fun K hK => ?_)
  refine wpB_seq_k (fun K2 hK2 => ?_)
  go_wp2_with fail
  refine wpB_block ?_
  refine wpB_loop (fun a' w' _ => a' = _ ∧ w' = wl) 0 ⟨rfl, rfl⟩ ?_
  rintro a wx m ⟨rfl, rfl⟩
  refine wpB_seq_k (fun K3 hK3 => ?_)
  go_wp2_with fail
  refine wpB_seq_k (fun K4 hK4 => ?_)
  go_wp2_with fail
  refine wpB_of ?_
  go_wp2_with fail
  rw [Exit.noGoto_ret]
  go_ret3
  exact ⟨rfl, HB.out⟩
theorem drainN {w : World} {p : Value} (h : Nob w p) (i : Int) : Calls Try.prog 52 #[p, .int .i64 i] w fun e w' => e = .returned (.slice none 0 0) ∧ Below w.heap.size w w' := by
  have H := Lib.hid h
  clear h
  go_enter Try.func52, Try.ntmps52
  go_wp2_with fail
  refine (takeN H.out i).mono ?_
  rintro e w1 ⟨rfl, hb⟩
  have HB := Lib.hid hb
  clear hb
  go_wp2_with fail
  refine wp_loop_rounds 1 ?_
  rw [rounds_succ]
  go_wp2_with fail
  go_ret
  exact ⟨rfl, HB.out⟩
theorem walk_great (i : Int) (s : ByteArray) (hs : s.size ≤ 9223372036854775807) (hg : 100 < s.size) (w : World) :
    Calls Try.prog 9 #[.int .i64 i, .string s] w fun e w' => e = .returned (.bool true) ∧ Below w.heap.size w w' := by
  go_enter Try.func9, Try.ntmps9
  go_wp2_with (go_at_call 46; refine (alive10 _).mono ?_; rintro e w1 ⟨rfl, hb⟩; have HB := Lib.hid hb; clear hb)
  go_ret
  exact ⟨rfl, HB.out⟩
set_option maxRecDepth 100000 in
set_option maxHeartbeats 8000000 in
theorem walk_small (i : Int) (s : ByteArray) (hs : s.size ≤ 100) (w : World) :
    Calls Try.prog 9 #[.int .i64 i, .string s] w fun e w' => e = .returned (.bool true) ∧ Below w.heap.size w w' := by
  have hcat : (⟨#[]⟩ ++ ⟨#[]⟩ : ByteArray) = ⟨#[]⟩ := by kernel_rfl
  have hcat2 : (⟨#[]⟩ : ByteArray).toList.isEmpty = true := by kernel_rfl
  have hcat3 : (⟨#[]⟩ : ByteArray).toList = [] := by kernel_rfl
  go_enter Try.func9, Try.ntmps9
  go_wp2_with fail
  have U0 : Hid (Nob (w.alloc (.cells #[.slice none 0 0] 81)) (.pointer (some ⟨w.heap.size, 0, none⟩))) := .inr ⟨_, rfl, heap_alloc_new w _⟩
  have N0 : ∀ {W : World}, Hid (Nob W (.pointer none)) := .inl rfl
  have B0 : Hid (Below w.heap.size w (w.alloc (.cells #[.slice none 0 0] 81))) := alloc_below w _
  generalize w.alloc (.cells #[.slice none 0 0] 81) = wa at U0 B0 ⊢
  refine (takeN N0.out i).mono ?_
  rintro e w1' ⟨rfl, hb⟩
  have U1 := Lib.hid (U0.out.below hb)
  have B1 : Hid (Below w.heap.size w w1') := B0.out.trans (hb.mono B0.out.size)
  clear hb U0
  go_wp2_with fail
  refine (takeN U1.out i).mono ?_
  rintro e w2' ⟨rfl, hb⟩
  have U2 := Lib.hid (U1.out.below hb)
  have B2 : Hid (Below w.heap.size w w2') := B1.out.trans (hb.mono B1.out.size)
  clear hb U1
  go_wp2_with fail
  refine (nextN N0.out _).mono ?_
  rintro e w3' ⟨rfl, hb⟩
  have U3 := Lib.hid (U2.out.below hb)
  have B3 : Hid (Below w.heap.size w w3') := B2.out.trans (hb.mono B2.out.size)
  clear hb U2
  go_wp2_with fail
  refine (nextN U3.out _).mono ?_
  rintro e w4' ⟨rfl, hb⟩
  have U4 := Lib.hid (U3.out.below hb)
  have B4 : Hid (Below w.heap.size w w4') := B3.out.trans (hb.mono B3.out.size)
  clear hb U3
  go_wp2_with fail
  refine (alive10 _).mono ?_
  rintro e w5' ⟨rfl, hb⟩
  have U5 := Lib.hid (U4.out.below hb)
  have B5 : Hid (Below w.heap.size w w5') := B4.out.trans (hb.mono B4.out.size)
  clear hb U4
  go_wp2_with fail
  refine (putN N0.out _ s).mono ?_
  rintro e w6' ⟨rfl, hb⟩
  have U6 := Lib.hid (U5.out.below hb)
  have B6 : Hid (Below w.heap.size w w6') := B5.out.trans (hb.mono B5.out.size)
  clear hb U5
  go_wp2_with fail
  refine (putN U6.out _ s).mono ?_
  rintro e w7' ⟨rfl, hb⟩
  have U7 := Lib.hid (U6.out.below hb)
  have B7 : Hid (Below w.heap.size w w7') := B6.out.trans (hb.mono B6.out.size)
  clear hb U6
  go_wp2_with fail
  refine (lenN N0.out i).mono ?_
  rintro e w8' ⟨rfl, rfl⟩
  go_wp2_with fail
  refine (lenN U7.out i).mono ?_
  rintro e w9' ⟨rfl, rfl⟩
  go_wp2_with fail
  refine (countN N0.out).mono ?_
  rintro e w10' ⟨rfl, rfl⟩
  go_wp2_with fail
  refine (countN U7.out).mono ?_
  rintro e w11' ⟨rfl, rfl⟩
  go_wp2_with fail
  refine (drainN N0.out i).mono ?_
  rintro e w12' ⟨rfl, hb⟩
  have U8 := Lib.hid (U7.out.below hb)
  have B8 : Hid (Below w.heap.size w w12') := B7.out.trans (hb.mono B7.out.size)
  clear hb U7
  go_wp2_with fail
  refine (drainN U8.out i).mono ?_
  rintro e w13' ⟨rfl, hb⟩
  have U9 := Lib.hid (U8.out.below hb)
  have B9 : Hid (Below w.heap.size w w13') := B8.out.trans (hb.mono B8.out.size)
  clear hb U8
  go_wp2_with fail
  go_ret
  exact ⟨rfl, B9.out⟩

theorem walk (i : Int) (s : ByteArray) (hs : s.size ≤ 9223372036854775807) (w : World) :
    Calls Try.prog 9 #[.int .i64 i, .string s] w fun e w' => e = .returned (.bool true) ∧ Below w.heap.size w w' := by
  by_cases hg : 100 < s.size
  · exact walk_great i s hs hg w
  · exact walk_small i s (by omega) w

set_option maxRecDepth 100000 in
theorem lifted (os : Os) (started : os.Started) (H : Type) (enc : TypeId × Value → H) :
    ReturnsInHanded {} Try.checked os 9 .any (Rows.laneNobodySpec.pre6 enc Try.prog Try.f9 Rows.laneNobodyRow.domain false) (Rows.laneNobodySpec.post enc Try.prog Try.f9 false true false false) := by
  refine returnsInHanded_of_change (C := Try.checked) own started (by kernel_rfl) Try.func9
    (ChangeSpec.witness6 (enc := enc) (C := Try.checked) false ⟨#[], #[.int .i64 0, .string ⟨#[]⟩], []⟩ 8 (by kernel_rfl) (by kernel_rfl) (by kernel_rfl) (by kernel_rfl)) ?_
  intro W base args ds gs before hval0 hW hcnd _
  have hval : ∀ (j : Nat) t v, Try.f9.params[j]? = some t → args[j]? = some v → Value.okWide Try.prog W .any base t v := hval0
  have hW' := hW
  obtain ⟨p, q, hA0, hV, rfl, hfz, hnd⟩ := hW
  have hA : DataW.TrodAll enc Try.prog W 0 (fun _ => true) true Try.f9.params.toList args.toList ds p := hA0
  rw [Try.params9] at hA hval
  obtain ⟨v0, vs0, d0, ds0, p0, q0, hargs, rfl, rfl, h0, r0⟩ := trodAll_cons hA
  obtain ⟨v1, vs1, d1, ds1, p1, q1, rfl, rfl, rfl, h1, r1⟩ := trodAll_cons r0
  obtain ⟨rfl, rfl, rfl⟩ := trodAll_nil r1
  obtain rfl : args = #[v0, v1] := by cases args; simp_all
  obtain ⟨rfl, rfl⟩ := trodVars_none hV
  obtain ⟨a0, rfl, rfl, rfl, w0⟩ := open_int Try.underlying3 (hval 0 3 v0 rfl rfl) h0
  have b0 := bounds_i64 w0
  obtain ⟨x1, rfl, rfl, rfl, w1⟩ := open_string Try.underlying9 (hval 1 9 v1 rfl rfl) h1
  refine (walk a0 x1 (by unfold maxLen at w1; omega) W).mono fun e W' ⟨he, hb⟩ => ?_
  subst he
  exact ⟨_, rfl, law_post hW' rfl rfl rfl (by kernel_rfl) hb⟩

/-- The statement. -/
theorem proved : Rows.LaneNobodySaid :=
  OpenClaim.holds_of_wide 9 Try.f9 rfl rfl rfl rfl rfl rfl rfl ⟨rfl, rfl, rfl, rfl, rfl⟩ rfl rfl rfl rfl rfl (by kernel_rfl) Try.func9 (by kernel_rfl)
    (of_decide_eq_true (by kernel_rfl)) (by unfold Func.isWrapper; first | (rw [if_pos (by decide +kernel)]; kernel_rfl) | (rw [if_neg (by decide +kernel)]; exact ⟨rfl, rfl⟩))
    (fun os started H enc _ => lifted os started H enc)
#print axioms proved
end Go.Proofs.Ytfdihgahegfamaa.laneNobody
