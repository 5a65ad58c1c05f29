/-
  Contract of lane's Next at ints, with the blocks of the things. Condition: the lanes lie in memory as New lays them.
-/
import Derived.Test.YtfdihgahegfamaaY
namespace Go.Proofs.Ytfdihgahegfamaa
open Go.RowKit Go.Conc
/-- What Next tells. -/
def NextB (w : World) (g ga c0 n size : Nat) (Q : List (List Value)) (f : Int) (e : Ending) (w' : World) : Prop :=
  (∃ j x l, j < n ∧ (∀ i, i < j → Q[lnr f n i]? = some []) ∧ Q[lnr f n j]? = some (x :: l) ∧ e = .returned (.tuple #[.int .i64 (lnr f n j), x, .bool true]) ∧ LN 113 111 3 w' g ga c0 n size (Q.set (lnr f n j) l) ∧ Mods (CS c0 n) w w' ∧ ∀ q, BX w' c0 n q → BX w c0 n q ∨ w.heap.size ≤ q) ∨
  ((∀ i, i < n → Q[lnr f n i]? = some []) ∧ e = .returned (.tuple #[.int .i64 0, .int .i64 0, .bool false]) ∧ LN 113 111 3 w' g ga c0 n size Q ∧ Below w.heap.size w w')
set_option maxRecDepth 100000 in
set_option maxHeartbeats 4000000 in
theorem nextB {w : World} {g ga c0 n size : Nat} {Q : List (List Value)} (h : LN 113 111 3 w g ga c0 n size Q) (hn : 1 ≤ n) (hone : ∀ l ∈ Q, ∀ y ∈ l, ∃ x, y = .int .i64 x) (f : Int) (f0 : -9223372036854775808 ≤ f) (f1 : f ≤ 9223372036854775807) :
    Calls Try.prog 55 #[.pointer (some ⟨g, 0, none⟩), .int .i64 f] w (NextB w g ga c0 n size Q f) := by
  have h8 := h.hn
  have HT := Lib.hid (h.top hn)
  obtain ⟨tb0, tb1⟩ := tmod_bd f n hn
  obtain ⟨rr, hrr⟩ : ∃ rr, rr = f.tmod n := ⟨_, rfl⟩
  have hmod : f.tmod n = rr := hrr.symm
  rw [hmod] at tb0 tb1
  have HL := Lib.hid h
  have HO := Lib.hid hone
  have HR := Lib.hid hrr
  have hnz : ((n : Int) == 0) = false := by simp; omega
  have hnz2 : ¬ (n : Int) = 0 := by omega
  clear h hone hrr
  refine calls_of_wpB Try.func55 rfl (by rintro _ (⟨_, _, _, _, _, _, h, _⟩ | ⟨_, h, _⟩) <;> cases h) (fun b hbk hbf => ?_)
  simp only [Try.ntmps55, List.size_toArray, List.length_cons, List.length_nil, Nat.reduceAdd, Nat.reduceSub, Array.replicate_succ, Array.replicate_zero, List.push_toArray, List.append_toArray, List.nil_append, List.cons_append]
  refine wpB_seq_k (fun K hK => ?_)
  go_wp2_with fail
  refine wpB_scope ?_
  refine wpB_seq_k (fun K hK => ?_)
  go_wp2_with fail
  go_region
  go_wp2_with fail
  obtain ⟨wl, hwl⟩ : ∃ wl, wl = (w.alloc (.cells #[.int .i64 0] 3)).drew := ⟨_, rfl⟩
  have HW : Hid (LN 113 111 3 wl g ga c0 n size Q) := by show LN _ _ _ _ _ _ _ _ _ _; rw [hwl]; exact HL.out.below (alloc_below w _).drew
  have HB : Hid (Below w.heap.size w wl) := by show Below _ _ _; rw [hwl]; exact (alloc_below w _).drew
  rw [← hwl]
  clear hwl
  refine wpB_seq_k (fun K hK => ?_)
  go_wp2_with (go_at_call 45; refine (countL HW.out).mono ?_; rintro e w' ⟨rfl, rfl⟩)
  refine wpB_seq (wpB_of (wp_label ?_))
  show wpB _ _ _ _ _ _
  refine wpB_seq_b (fun K hK => ?_)
  refine wpB_seq_k (fun K2 hK2 => ?_)
  go_wp2_with fail
  refine wpB_block ?_
  refine wpB_loop (fun a wx m => ∃ (i : Nat) (u11 u12 u13 u21 u22 u23 u24 u25 u26 u27 u28 u29 u30 u31 u32 u33 u34 u35 u36 u37 u38 u39 u40 u41 u42 u43 u44 u45 u46 u47 : Value), i ≤ n ∧ m = n - i ∧ (∀ j, j < i → Q[lnr f n j]? = some []) ∧ wx = wl ∧ a = ⟨#[.pointer (some ⟨g, 0, none⟩), .int .i64 f, undef, undef, .int .i64 0, .int .i64 0, .bool false, .int .i64 0, .int .i64 0, .bool false, .int .i64 n, u11, u12, u13, .pointer (some ⟨w.heap.size, 0, none⟩), .pointer (some ⟨w.heap.size, 0, none⟩), .int .i64 0, .pointer (some ⟨g, 0, none⟩), .int .i64 n, .int .i64 n, .int .i64 i, u21, u22, u23, u24, u25, u26, u27, u28, u29, u30, u31, u32, u33, u34, u35, u36, u37, u38, u39, u40, u41, u42, u43, u44, u45, u46, u47, undef, undef, undef], []⟩) n ⟨0, _, _, _, _, _, _, _, _, _, _, _, _, _, _, _, _, _, _, _, _, _, _, _, _, _, _, _, _, _, _, by omega, by omega, fun j hj => by omega, rfl, rfl⟩ ?_
  rintro a wx m ⟨i, u11, u12, u13, u21, u22, u23, u24, u25, u26, u27, u28, u29, u30, u31, u32, u33, u34, u35, u36, u37, u38, u39, u40, u41, u42, u43, u44, u45, u46, u47, hi, rfl, hem, rfl, rfl⟩
  have HE := Lib.hid hem
  clear hem
  by_cases hlt : i < n
  · refine wpB_seq_k (fun K3 hK3 => ?_)
    go_wp2_with fail
    refine wpB_seq_k (fun K4 hK4 => ?_)
    go_wp2_with fail
    refine wpB_seq_b (fun K5 hK5 => ?_)
    refine wpB_block ?_
    refine wpB_seq_k (fun K6 hK6 => ?_)
    go_wp2_with fail
    refine wpB_seq_k (fun K7 hK7 => ?_)
    go_wp2_with fail
    have hkI : (rr + (n : Int) + (i : Int)) % (n : Int) = ((lnr f n i : Nat) : Int) := by
      unfold lnr
      rw [HR.out, Int.toNat_of_nonneg (Int.emod_nonneg _ (by omega))]
    rw [hkI]
    have hkn := lnr_lt f n i hn
    obtain ⟨k, hk⟩ : ∃ k, k = lnr f n i := ⟨_, rfl⟩
    rw [← hk] at hkn ⊢
    have HK := Lib.hid hk
    clear hk hkI
    have hQk : Q[k]? = some (Q[k]'(by have := HW.out.hl; omega)) := List.getElem?_eq_getElem _
    generalize Q[k]'(by have := HW.out.hl; omega) = ql at hQk
    have c1 := HW.out.c0'
    have c2 := HW.out.ca hkn
    obtain ⟨buf, cs_, cr_, hb1, hb2, hb3, hb4⟩ := HW.out.hc k ql hQk
    have HQ := Lib.hid hQk
    have HB1 := Lib.hid hb1
    clear hQk hb1 hb4
    refine wpB_seq_k (fun K8 hK8 => ?_)
    go_wp2_with fail
    clear c1 c2
    refine wpB_seq_b (fun K9 hK9 => ?_)
    cases ql with
    | nil =>
      have hbn := arr_nil hb2
      have HB2 : Hid (wx.heap[c0 + k]? = some (.chan size #[] false cs_ cr_ false)) := by have := HB1.out; rw [hbn] at this; exact this
      clear HB1 hb2 hb3 hbn
      refine wpB_select (v := .tuple #[goInt (-1), .bool false, .pointer none]) (w' := wx) (fun k' cs => ?_) ?_
      · refine step_lone_select_default (z := .pointer none) (stepG_comm (cases := #[rcase (c0 + k) (.pointer none)]) (blocking := false) (shape := .select) (w' := wx) rfl rfl (by rw [hbk]; decide) (by simp [go_sem, execOp, rcase, Act.eval])) HB2.out
      go_wp2_with fail
      refine wpB_of ?_
      go_wp2_with fail
      refine wpB_of ?_
      go_wp2_with fail
      refine ⟨n - (i + 1), by omega, i + 1, by omega, (by first | rfl | trivial), fun j hj => ?_, (by first | rfl | trivial), _, _, _, _, _, _, _, _, _, _, _, _, _, _, _, _, _, _, _, _, _, _, _, _, _, _, _, _, _, _, rfl⟩
      by_cases hji : j = i
      · subst hji; rw [← HK.out]; exact HQ.out
      · exact HE.out j (by omega)
    | cons y l =>
      obtain ⟨x, rfl⟩ := HO.out _ (List.mem_of_getElem? HQ.out) y (by simp)
      obtain ⟨t1, t2, q, t3, t4, t5, t6⟩ := HW.out.take HQ.out HB1.out
      obtain ⟨w2, hw2⟩ : ∃ w2, w2 = wx.setChan (c0 + k) size (buf.extract 1 buf.size) false cs_ (cr_ + 1) false := ⟨_, rfl⟩
      rw [← hw2] at t1 t2
      have hcell : w2.cell? ⟨q, 0, none⟩ = some (.int .i64 x) := by
        rw [hw2, cell_of_row (cs := #[.int .i64 x]) (t := 3) (fr := (0, 0))]
        · rfl
        · rw [setChan_far _ _ _ _ _ _ _ (fun e => t5 e.symm)]; exact t4
      have px := bx_take (c0 := c0) (n := n) HB1.out hkn
      rw [← hw2] at px
      have PX := Lib.hid px
      clear px
      have T1 := Lib.hid t1
      have T2 := Lib.hid t2
      clear t1 t2 t4 t5 hb2 hb3
      refine wpB_select (v := .tuple #[goInt 0, .bool true, buf.getD 0 undef]) (w' := w2) (fun k' cs => ?_) ?_
      · rw [hw2]
        refine step_lone_select_recv_buf (z := .pointer none) (stepG_comm (cases := #[rcase (c0 + k) (.pointer none)]) (blocking := false) (shape := .select) (w' := wx) rfl rfl (by rw [hbk]; decide) (by simp [go_sem, execOp, rcase, Act.eval])) HB1.out t6
      rw [t3]
      clear t3 t6 hw2
      go_wp2_with fail
      refine wpB_of ?_
      go_wp2_with fail
      have hcn : ∀ q', (w2.drewN q').cell? ⟨q, 0, none⟩ = some (.int .i64 x) := fun _ => hcell
      go_quiet (fail)
      go_wp2_with fail
      refine wpB_of ?_
      go_wp2_with fail
      rw [Exit.noGoto_ret]
      go_ret3
      have hk2 := HK.out
      subst hk2
      exact .inl ⟨i, _, l, hlt, HE.out, HQ.out, rfl, T1.out.below ⟨rfl, rfl, rfl, Nat.le_refl _, fun _ _ => rfl⟩, (Mods.lift2 HB.out T2.out).trans (Mods.of_below (S := CS c0 n) ⟨rfl, rfl, rfl, Nat.le_refl _, fun _ _ => rfl⟩) (fun _ h => .inl h), fun q hq => (PX.out q hq).imp (fun h => bx_mods (S := fun _ => False) (Mods.of_below HB.out) (fun _ _ => id) HT.out q h) (fun h => Nat.le_trans HB.out.size h)⟩
  · refine wpB_seq_k (fun K3 hK3 => ?_)
    go_wp2_with fail
    refine wpB_seq_k (fun K4 hK4 => ?_)
    go_wp2_with fail
    refine wpB_of ?_
    go_wp2_with fail
    rw [Exit.noGoto_ret]
    go_ret3
    exact .inr ⟨fun j hj => HE.out j (by omega), rfl, HW.out, HB.out⟩
end Go.Proofs.Ytfdihgahegfamaa
