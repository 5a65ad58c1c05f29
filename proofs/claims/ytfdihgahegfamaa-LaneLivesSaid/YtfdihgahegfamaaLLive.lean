/-
  For every two ints, every slice of ops and every int the law LaneLives of package casematelaw10 returns true, and the arguments read afterwards as before: the program's lanes answer as the document's. Condition: none.
-/
import Derived.Test.YtfdihgahegfamaaDR
import Derived.Deep.MidRow
namespace Go.Proofs.Ytfdihgahegfamaa.laneLives
open Go.ChangeShapes Go.WideShapes Go.ChangeAt Go.RowKit Go.Conc Go.Deep
def lenAt (n : Nat) (A : Nat → List Int) (l : Int) : Nat := if 0 ≤ l ∧ l < n then (A l.toNat).length else 0
theorem lenJa {w0 wr : World} {g ga c0 n size gx : Nat} {u : Value} {vs : Nat → Value} {A B : Nat → List Int} (h : J2 w0 wr g ga c0 n size gx u vs A B) (l : Int) : Calls Try.prog 43 #[.pointer (some ⟨g, 0, none⟩), .int .i64 l] wr fun e w' => e = .returned (.int .i64 (lenAt n A l : Nat)) ∧ wr = w' := by
  obtain ⟨Q, hQ, hq⟩ := h.ln
  by_cases hl : 0 ≤ l ∧ l < n
  · obtain ⟨k, rfl⟩ : ∃ k : Nat, l = k := ⟨l.toNat, by omega⟩
    unfold lenAt
    rw [if_pos hl]
    refine (lenC hQ k _ (hq k (by omega))).mono ?_
    rintro e w' ⟨rfl, rfl⟩
    exact ⟨by simp, rfl⟩
  · unfold lenAt
    rw [if_neg hl]
    exact lenC_no hQ l hl
theorem lenJb {w0 wr : World} {g ga c0 n size gx : Nat} {u : Value} {vs : Nat → Value} {A B : Nat → List Int} (h : J2 w0 wr g ga c0 n size gx u vs A B) (l : Int) : Calls Try.prog 44 #[.pointer (some ⟨gx, 0, none⟩), .int .i64 l] wr fun e w' => e = .returned (.int .i64 (lenAt n B l : Nat)) ∧ wr = w' := by
  by_cases hl : 0 ≤ l ∧ l < n
  · obtain ⟨k, rfl⟩ : ∃ k : Nat, l = k := ⟨l.toNat, by omega⟩
    unfold lenAt
    rw [if_pos hl]
    refine (docLen h.dl k (by omega)).mono ?_
    rintro e w' ⟨rfl, rfl⟩
    exact ⟨by simp, rfl⟩
  · unfold lenAt
    rw [if_neg hl]
    exact docLen_no h.dl l hl
set_option maxRecDepth 100000 in
set_option maxHeartbeats 8000000 in
theorem walk_in (n s : Nat) (h1 : 1 ≤ n) (h2 : n ≤ 8) (h3 : 1 ≤ s) (h4 : s ≤ 8) (lv : Value) (L : Nat) (f : Nat → Nat → Int) (l : Int) (w : World) (h : SO 3 w lv L f) :
    Calls Try.prog 8 #[.int .i64 n, .int .i64 s, lv, .int .i64 l] w fun e w' => e = .returned (.bool true) ∧ Below w.heap.size w w' := by
  obtain ⟨x, c, rfl, hx1, hx2, hx3⟩ := h
  unfold maxLen at hx2
  have X := Lib.hid hx3
  clear hx3
  go_enter Try.func8, Try.ntmps8
  go_wp2_with fail
  refine (newL n s h1 h2 h3 h4 w).mono ?_
  rintro e w1 ⟨g, ga, c0, rfl, hln, hc0, hg, hb1⟩
  have HL := Lib.hid hln
  have HB1 := Lib.hid hb1
  have HC := Lib.hid hc0
  clear hln hc0 hg hb1
  go_wp2_with fail
  refine (docNew n s h1 h2 h3 h4 w1).mono ?_
  rintro e w2 ⟨gx, u, rfl, hd, hb2, hnew⟩
  have S0 : Hid (J2 w w2 g ga c0 n s gx u (fun _ => .slice none 0 0) (fun _ => []) (fun _ => [])) := by
    show J2 _ _ _ _ _ _ _ _ _ _ _ _
    refine ⟨⟨_, HL.out.below hb2, fun j hj => by rw [List.getElem?_replicate, if_pos hj]; rfl⟩, hd, fun k hk hx => ?_, HC.out, fun k hk => Nat.le_trans HB1.out.size (hnew k hk), h1, HB1.out.trans (hb2.mono HB1.out.size)⟩
    obtain ⟨z, hz⟩ := HL.out.bxt (bx_mods (S := fun _ => False) (Mods.of_below hb2) (fun _ _ => id) (HL.out.top h1) k hx)
    have := (Array.getElem?_eq_some_iff.1 hz).1
    have := hnew k hk
    omega
  clear hd hb2 hnew HL HB1 HC
  go_wp2_with fail
  go_loopg [13] (min L 200) (fun r vi wr => ∃ (i : Nat) (vs : Nat → Value) (A : Nat → List Int), r + i = min L 200 ∧ vi = .int .i64 i ∧ (∀ j, j < n → (A j).length ≤ s) ∧ J2 w wr g ga c0 n s gx u vs A A)
  case atStart => exact ⟨0, _, _, by omega, rfl, fun j hj => by simp, S0.out⟩
  case round =>
    clear S0
    obtain ⟨i, vs, A, hr, rfl, hA, hs⟩ := hrel
    have S := Lib.hid hs
    have HA := Lib.hid hA
    clear hs hA
    by_cases hlt : i < L
    · by_cases h200 : i < 200
      · obtain ⟨p0, p1, b, o, rfl, hb1, hc0⟩ := X.out i 0 hlt (by omega)
        obtain ⟨p2, p3, b', o', he, _, hc1⟩ := X.out i 1 hlt (by omega)
        obtain ⟨p4, p5, b'', o'', he2, _, hc2⟩ := X.out i 2 hlt (by omega)
        simp only [Option.some.injEq, Addr.mk.injEq] at he he2
        obtain ⟨rfl, rfl, _⟩ := he
        obtain ⟨rfl, rfl, _⟩ := he2
        rw [Nat.add_zero] at hc0
        generalize f i 0 = kd at *
        generalize f i 1 = la at *
        generalize f i 2 = xx at *
        have RNG : Hid (∀ W, Below w.heap.size w W → W.rangeAt b (o + i * 3) [.int .i64 kd, .int .i64 la, .int .i64 xx]) := by
          intro W hW
          have q0 : W.cell? ⟨b, o + i * 3, none⟩ = some (.int .i64 kd) := (hW.cell (p := ⟨b, o + i * 3, none⟩) hb1).trans hc0
          have q1 : W.cell? ⟨b, o + (i * 3 + 1), none⟩ = some (.int .i64 la) := (hW.cell (p := ⟨b, o + (i * 3 + 1), none⟩) hb1).trans hc1
          have q2 : W.cell? ⟨b, o + (i * 3 + 2), none⟩ = some (.int .i64 xx) := (hW.cell (p := ⟨b, o + (i * 3 + 2), none⟩) hb1).trans hc2
          intro j v hj
          rcases j with _ | _ | _ | j
          · simp at hj; rw [Nat.add_zero, q0, hj]
          · simp at hj; rw [← hj, ← q1, Nat.add_assoc]
          · simp at hj; rw [← hj, ← q2, Nat.add_assoc]
          · simp at hj
        have I75 : Hid ((Try.prog.info? 75).map (·.size) = some 3) := by show _ = _; kernel_rfl
        clear hc0 hc1 hc2
        go_wp2_with (refine wpList_load_mid rfl 75 (.tmp 54) rfl b (o + i * 3) rfl [.int .i64 kd, .int .i64 la, .int .i64 xx] _ (RNG.out _ S.out.hb) Try.underlying75 rfl I75.out ?_)
        refine (joneC S.out HA.out h2 h4 kd la xx p2 p3).mono ?_
        rintro e w3 ⟨vs', A', rfl, hj, hfit⟩
        have J := Lib.hid hj
        have HF := Lib.hid hfit
        clear hj hfit S RNG
        go_wp2_with fail
        refine (lenJa J.out l).mono ?_
        rintro e w4 ⟨rfl, rfl⟩
        go_wp2_with fail
        refine (lenJb J.out l).mono ?_
        rintro e w5 ⟨rfl, rfl⟩
        go_wp2_with fail
        obtain ⟨Q, hQ, _⟩ := J.out.ln
        refine (countL hQ).mono ?_
        rintro e w6 ⟨rfl, rfl⟩
        clear hQ
        go_wp2_with fail
        go_roundg (min L 200 - (i + 1))
        case measure => omega
        case rel => exact ⟨i + 1, _, _, by omega, by go_num, HF.out, J.out⟩
      · have HB7 := Lib.hid S.out.hb
        clear S
        go_wp2_with (go_at_call 46; refine (alive10 _).mono ?_; rintro e w8 ⟨rfl, hb⟩; have HB := Lib.hid (HB7.out.trans (hb.mono HB7.out.size)); clear hb)
        go_ret
        exact ⟨rfl, HB.out⟩
    · have HB7 := Lib.hid S.out.hb
      clear S
      go_wp2_with (go_at_call 46; refine (alive10 _).mono ?_; rintro e w8 ⟨rfl, hb⟩; have HB := Lib.hid (HB7.out.trans (hb.mono HB7.out.size)); clear hb)
      go_ret
      exact ⟨rfl, HB.out⟩
set_option maxRecDepth 100000 in
set_option maxHeartbeats 1000000 in
theorem walk_no (n s : Int) (hns : n < 1 ∨ 8 < n ∨ s < 1 ∨ 8 < s) (x : Option Addr) (c L : Nat) (l : Int) (w : World) :
    Calls Try.prog 8 #[.int .i64 n, .int .i64 s, .slice x L c, .int .i64 l] w fun e w' => e = .returned (.bool true) ∧ Below w.heap.size w w' := by
  have HN := Lib.hid hns
  clear hns
  by_cases hL : 0 < L
  · have hL2 : (0 : Int) < L := by omega
    go_enter Try.func8, Try.ntmps8
    go_wp2_with fail
    refine (newL_no n s HN.out w).mono ?_
    rintro e w1 ⟨rfl, rfl⟩
    go_wp2_with fail
    refine (docNew_no n s HN.out w).mono ?_
    rintro e w1 ⟨rfl, rfl⟩
    go_wp2_with fail
    refine wp_loop_rounds 1 ?_
    rw [rounds_succ]
    go_wp2_with (go_at_call 46; refine (alive10 _).mono ?_; rintro e w8 ⟨rfl, hb⟩; have HB := Lib.hid hb; clear hb)
    go_ret
    exact ⟨rfl, HB.out⟩
  · obtain rfl : L = 0 := by omega
    go_enter Try.func8, Try.ntmps8
    go_wp2_with fail
    refine (newL_no n s HN.out w).mono ?_
    rintro e w1 ⟨rfl, rfl⟩
    go_wp2_with fail
    refine (docNew_no n s HN.out w).mono ?_
    rintro e w1 ⟨rfl, rfl⟩
    go_wp2_with fail
    refine wp_loop_rounds 1 ?_
    rw [rounds_succ]
    go_wp2_with (go_at_call 46; refine (alive10 _).mono ?_; rintro e w8 ⟨rfl, hb⟩; have HB := Lib.hid hb; clear hb)
    go_ret
    exact ⟨rfl, HB.out⟩
theorem walk (n s : Int) (lv : Value) (L : Nat) (f : Nat → Nat → Int) (l : Int) (w : World) (h : SO 3 w lv L f) :
    Calls Try.prog 8 #[.int .i64 n, .int .i64 s, lv, .int .i64 l] w fun e w' => e = .returned (.bool true) ∧ Below w.heap.size w w' := by
  by_cases hns : n < 1 ∨ 8 < n ∨ s < 1 ∨ 8 < s
  · obtain ⟨x, c, rfl, _⟩ := h
    exact walk_no n s hns x c L l w
  · obtain ⟨a, rfl⟩ : ∃ a : Nat, n = a := ⟨n.toNat, by omega⟩
    obtain ⟨b, rfl⟩ : ∃ b : Nat, s = b := ⟨s.toNat, by omega⟩
    exact walk_in a b (by omega) (by omega) (by omega) (by omega) lv L f l w h

set_option maxRecDepth 100000 in
theorem open_ops3 {H : Type} {enc : TypeId × Value → H} {w : World} {r : Reach} {b0 base : Nat} {v : Value} {d : DataW H} {ps : List MemPlace}
    (hval : Value.okWide Try.prog w r b0 66 v) (hd : DataW.Trod enc Try.prog w base (fun _ => true) true 66 v d ps) : ∃ L f, SO 3 w v L f :=
  open_so (t := 66) Try.underlying66 Try.underlying75 (by kernel_rfl) (by kernel_rfl) (fun j f hj => by
    rcases j with _ | _ | _ | j
    · simp at hj; rw [← hj]
    · simp at hj; rw [← hj]
    · simp at hj; rw [← hj]
    · simp at hj) (by decide) hval hd

set_option maxRecDepth 100000 in
theorem lifted (os : Os) (started : os.Started) (H : Type) (enc : TypeId × Value → H) :
    ReturnsInHanded {} Try.checked os 8 .any (Rows.laneLivesSpec.pre6 enc Try.prog Try.f8 Rows.laneLivesRow.domain false) (Rows.laneLivesSpec.post enc Try.prog Try.f8 false true false false) := by
  refine returnsInHanded_of_change (C := Try.checked) own started (by kernel_rfl) Try.func8
    (ChangeSpec.witness6 (enc := enc) (C := Try.checked) false ⟨#[], #[.int .i64 0, .int .i64 0, .slice none 0 0, .int .i64 0], []⟩ 8 (by kernel_rfl) (by kernel_rfl) (by kernel_rfl) (by kernel_rfl)) ?_
  intro W base args ds gs before hval0 hW hcnd _
  have hval : ∀ (j : Nat) t v, Try.f8.params[j]? = some t → args[j]? = some v → Value.okWide Try.prog W .any base t v := hval0
  have hW' := hW
  obtain ⟨p, q, hA0, hV, rfl, hfz, hnd⟩ := hW
  have hA : DataW.TrodAll enc Try.prog W 0 (fun _ => true) true Try.f8.params.toList args.toList ds p := hA0
  rw [Try.params8] at hA hval
  obtain ⟨v0, vs0, d0, ds0, p0, q0, hargs, rfl, rfl, h0, r0⟩ := trodAll_cons hA
  obtain ⟨v1, vs1, d1, ds1, p1, q1, rfl, rfl, rfl, h1, r1⟩ := trodAll_cons r0
  obtain ⟨v2, vs2, d2, ds2, p2, q2, rfl, rfl, rfl, h2, r2⟩ := trodAll_cons r1
  obtain ⟨v3, vs3, d3, ds3, p3, q3, rfl, rfl, rfl, h3, r3⟩ := trodAll_cons r2
  obtain ⟨rfl, rfl, rfl⟩ := trodAll_nil r3
  obtain rfl : args = #[v0, v1, v2, v3] := by cases args; simp_all
  obtain ⟨rfl, rfl⟩ := trodVars_none hV
  obtain ⟨a0, rfl, rfl, rfl, w0⟩ := open_int Try.underlying3 (hval 0 3 v0 rfl rfl) h0
  have b0 := bounds_i64 w0
  obtain ⟨a1, rfl, rfl, rfl, w1⟩ := open_int Try.underlying3 (hval 1 3 v1 rfl rfl) h1
  have b1 := bounds_i64 w1
  obtain ⟨L2, f2, s2⟩ := open_ops3 (hval 2 66 v2 rfl rfl) h2
  obtain ⟨a3, rfl, rfl, rfl, w3⟩ := open_int Try.underlying3 (hval 3 3 v3 rfl rfl) h3
  have b3 := bounds_i64 w3
  refine (walk a0 a1 v2 L2 f2 a3 W s2).mono fun e W' ⟨he, hb⟩ => ?_
  subst he
  exact ⟨_, rfl, law_post hW' rfl rfl rfl (by kernel_rfl) hb⟩

/-- The statement. -/
theorem proved : Rows.LaneLivesSaid :=
  OpenClaim.holds_of_wide 8 Try.f8 rfl rfl rfl rfl rfl rfl rfl ⟨rfl, rfl, rfl, rfl, rfl⟩ rfl rfl rfl rfl rfl (by kernel_rfl) Try.func8 (by kernel_rfl)
    (of_decide_eq_true (by kernel_rfl)) (by unfold Func.isWrapper; first | (rw [if_pos (by decide +kernel)]; kernel_rfl) | (rw [if_neg (by decide +kernel)]; exact ⟨rfl, rfl⟩))
    (fun os started H enc _ => lifted os started H enc)
#print axioms proved
end Go.Proofs.Ytfdihgahegfamaa.laneLives
