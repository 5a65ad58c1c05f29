/-
  For any two slices of ops the law BitsClones of package casematelaw12 returns true, and the arguments read afterwards as before: a clone is a row of its own: what is done to one leaves the other. Condition: none.
-/
import Derived.Test.YtklhnibmpdaioaaE
namespace Go.Proofs.Ytklhnibmpdaioaa.bitsClones
open Go.ChangeShapes Go.WideShapes Go.ChangeAt Go.RowKit
theorem BR_off {w w' : World} {g N mb wb : Nat} {f : Nat → Nat} {m1 w1 : Nat} (h : BR w g N mb wb f) (k : Mods (Bt m1 w1) w w') (h1 : g ≠ m1 ∧ g ≠ w1 ∧ mb ≠ m1 ∧ mb ≠ w1 ∧ wb ≠ m1 ∧ wb ≠ w1) : BR w' g N mb wb f :=
  h.mods k (by unfold Bt; omega) (by unfold Bt; omega) (by unfold Bt; omega)
set_option maxRecDepth 100000 in
set_option maxHeartbeats 8000000 in
theorem walk (lv mv : Value) (L M : Nat) (F G : Nat → Nat → Int) (w : World) (h : SO 2 w lv L F) (k : SO 2 w mv M G) :
    Calls Try.prog 12 #[lv, mv] w fun e w' => e = .returned (.bool true) ∧ Below w.heap.size w w' := by
  have HS := Lib.hid h
  have P := Lib.hid (playedB lv L F w h)
  obtain ⟨x, c, rfl, hx1, hx2, _⟩ := h
  obtain ⟨y, d, rfl, hy1, hy2, hy3⟩ := k
  unfold maxLen at hy2
  have Y := Lib.hid hy3
  clear hx1 hx2 hy3
  go_enter Try.func12, Try.ntmps12
  go_wp2_with fail
  refine P.out.mono ?_
  rintro e w1 ⟨g, mb, wb, rfl, r, k1, k2, k3, hb, _⟩
  have R := Lib.hid r
  have B := Lib.hid hb
  have K := Lib.hid (And.intro k1 (And.intro k2 k3))
  clear r hb k1 k2 k3 P
  obtain ⟨f, hf⟩ : ∃ f, f = play F (min L 150) := ⟨_, rfl⟩
  rw [← hf] at R
  have HF := Lib.hid hf
  have EQ : Hid (eqF 150 f f = true) := by show _ = _; simp [eqF]
  clear hf
  go_wp2_with fail
  refine (cloneB R.out).mono ?_
  rintro e w2 ⟨ga, ma, wa, rfl, ra, q1, q2, q3, hb2⟩
  have A2 := Lib.hid ra
  have R2 := Lib.hid (R.out.below hb2)
  have B2 : Hid (Below w.heap.size w w2) := B.out.trans (hb2.mono B.out.size)
  have Q : Hid (w1.heap.size ≤ ga ∧ w1.heap.size ≤ ma ∧ w1.heap.size ≤ wa ∧ g < w1.heap.size ∧ mb < w1.heap.size ∧ wb < w1.heap.size) := ⟨q1, q2, q3, R.out.lt, R.out.map.lt, R.out.wds.lt⟩
  clear ra hb2 q1 q2 q3 R
  go_wp2_with fail
  refine (cloneB R2.out).mono ?_
  rintro e w3 ⟨gb, nb, vb, rfl, rb, q1, q2, q3, hb3⟩
  have C3 := Lib.hid rb
  have R3 := Lib.hid (R2.out.below hb3)
  have A3 := Lib.hid (A2.out.below hb3)
  have B3 : Hid (Below w.heap.size w w3) := B2.out.trans (hb3.mono B2.out.size)
  have Z : Hid (w2.heap.size ≤ gb ∧ w2.heap.size ≤ nb ∧ w2.heap.size ≤ vb ∧ g < w2.heap.size ∧ mb < w2.heap.size ∧ wb < w2.heap.size ∧ ga < w2.heap.size ∧ ma < w2.heap.size ∧ wa < w2.heap.size) := ⟨q1, q2, q3, R2.out.lt, R2.out.map.lt, R2.out.wds.lt, A2.out.lt, A2.out.map.lt, A2.out.wds.lt⟩
  clear rb hb3 q1 q2 q3 R2 A2
  go_wp2_with fail
  refine (equalB A3.out R3.out).mono ?_
  rintro e w4 ⟨rfl, hb4⟩
  have R4 := Lib.hid (R3.out.below hb4)
  have A4 := Lib.hid (A3.out.below hb4)
  have C4 := Lib.hid (C3.out.below hb4)
  have B4 : Hid (Below w.heap.size w w4) := B3.out.trans (hb4.mono B3.out.size)
  clear hb4 R3 A3 C3
  rw [EQ.out]
  go_wp2_with fail
  refine (equalB A4.out C4.out).mono ?_
  rintro e w5 ⟨rfl, hb5⟩
  have R5 := Lib.hid (R4.out.below hb5)
  have A5 := Lib.hid (A4.out.below hb5)
  have C5 := Lib.hid (C4.out.below hb5)
  have B5 : Hid (Below w.heap.size w w5) := B4.out.trans (hb5.mono B4.out.size)
  clear hb5 R4 A4 C4
  rw [EQ.out]
  go_wp2_with fail
  go_loopg [9] (min M 60) (fun r vi wr => ∃ (i : Nat) (fr fa : Nat → Nat), r + i = min M 60 ∧ vi = .int .i64 i ∧ BR wr g 150 mb wb fr ∧ BR wr ga 150 ma wa fa ∧ BR wr gb 150 nb vb f ∧ Below w.heap.size w wr)
  case atStart => exact ⟨0, _, _, by omega, rfl, R5.out, A5.out, C5.out, B5.out⟩
  case round =>
    clear R5 A5 C5 B5
    obtain ⟨i, fr, fa, hr, rfl, r, a, cc, hb⟩ := hrel
    have R := Lib.hid r
    have A := Lib.hid a
    have C := Lib.hid cc
    have B := Lib.hid hb
    have HR := Lib.hid hr
    clear r a cc hb
    by_cases hlt : i < M
    · by_cases h60 : i < 60
      · obtain ⟨p2, p3, b, o, rfl, hb1, hc1⟩ := Y.out i 1 hlt (by omega)
        have hd1 : wr.cell? ⟨b, o + (i * 2 + 1), none⟩ = some (.int .i64 (G i 1)) := (B.out.cell (p := ⟨b, o + (i * 2 + 1), none⟩) hb1).trans hc1
        have hd2 : wr.cell? ⟨b, o + i * 2 + 1, none⟩ = some (.int .i64 (G i 1)) := by rw [Nat.add_assoc]; exact hd1
        generalize G i 1 = xx at *
        have HB1 := Lib.hid hb1
        have HC1 := Lib.hid hc1
        clear hc1 hb1 hr
        go_wp2_with fail
        refine (holdAny R.out xx).mono ?_
        rintro e w6 ⟨rfl, r6, m6⟩
        have R6 := Lib.hid r6
        have q := Q.out
        have z := Z.out
        have A6 := Lib.hid (BR_off A.out m6 (by omega))
        have C6 := Lib.hid (BR_off C.out m6 (by omega))
        have B6 := Lib.hid (mods_below B.out m6 B.out.size K.out.2.1 K.out.2.2)
        clear r6 m6 hd1 hd2 R A C B q z
        have hd1 : w6.cell? ⟨b, o + (i * 2 + 1), none⟩ = some (.int .i64 xx) := (B6.out.cell (p := ⟨b, o + (i * 2 + 1), none⟩) HB1.out).trans HC1.out
        have hd2 : w6.cell? ⟨b, o + i * 2 + 1, none⟩ = some (.int .i64 xx) := by rw [Nat.add_assoc]; exact hd1
        go_wp2_with fail
        refine (dropAny A6.out xx).mono ?_
        rintro e w7 ⟨rfl, r7, m7⟩
        have A7 := Lib.hid r7
        have q := Q.out
        have z := Z.out
        have k' := K.out
        have b' := B6.out.size
        have s0 : w.heap.size ≤ w1.heap.size := by omega
        have R7 := Lib.hid (BR_off R6.out m7 (by omega))
        have C7 := Lib.hid (BR_off C6.out m7 (by omega))
        have B7 := Lib.hid (mods_below B6.out m7 B6.out.size (by omega) (by omega))
        clear r7 m7 hd1 hd2 R6 A6 C6 B6 q z k' b' s0
        go_wp2_with fail
        go_roundg (min M 60 - (i + 1))
        case measure => have := HR.out; omega
        case rel => exact ⟨i + 1, _, _, by omega, by go_num, R7.out, A7.out, C7.out, B7.out⟩
      · have P := Lib.hid (playedB _ L F wr (HS.out.below B.out))
        clear hr
        go_wp2_with fail
        refine P.out.mono ?_
        rintro e w6 ⟨gc, mc, wc, rfl, r, k1, k2, k3, hb, _⟩
        rw [← HF.out] at r
        have D6 := Lib.hid r
        have C6 := Lib.hid (C.out.below hb)
        have B6 : Hid (Below w.heap.size w w6) := B.out.trans (hb.mono B.out.size)
        clear r hb k1 k2 k3 P
        go_wp2_with fail
        refine (aliveB _).mono ?_
        rintro e w7 ⟨rfl, hb⟩
        have D7 := Lib.hid (D6.out.below hb)
        have C7 := Lib.hid (C6.out.below hb)
        have B7 : Hid (Below w.heap.size w w7) := B6.out.trans (hb.mono B6.out.size)
        clear hb
        go_wp2_with fail
        refine (equalB C7.out D7.out).mono ?_
        rintro e w8 ⟨rfl, hb⟩
        have B8 : Hid (Below w.heap.size w w8) := B7.out.trans (hb.mono B7.out.size)
        clear hb
        rw [EQ.out]
        go_wp2_with fail
        go_ret
        exact ⟨rfl, B8.out⟩
    · have P := Lib.hid (playedB _ L F wr (HS.out.below B.out))
      clear hr
      go_wp2_with fail
      refine P.out.mono ?_
      rintro e w6 ⟨gc, mc, wc, rfl, r, k1, k2, k3, hb, _⟩
      rw [← HF.out] at r
      have D6 := Lib.hid r
      have C6 := Lib.hid (C.out.below hb)
      have B6 : Hid (Below w.heap.size w w6) := B.out.trans (hb.mono B.out.size)
      clear r hb k1 k2 k3 P
      go_wp2_with fail
      refine (aliveB _).mono ?_
      rintro e w7 ⟨rfl, hb⟩
      have D7 := Lib.hid (D6.out.below hb)
      have C7 := Lib.hid (C6.out.below hb)
      have B7 : Hid (Below w.heap.size w w7) := B6.out.trans (hb.mono B6.out.size)
      clear hb
      go_wp2_with fail
      refine (equalB C7.out D7.out).mono ?_
      rintro e w8 ⟨rfl, hb⟩
      have B8 : Hid (Below w.heap.size w w8) := B7.out.trans (hb.mono B7.out.size)
      clear hb
      rw [EQ.out]
      go_wp2_with fail
      go_ret
      exact ⟨rfl, B8.out⟩

set_option maxRecDepth 100000 in
theorem open_ops {H : Type} {enc : TypeId × Value → H} {w : World} {r : Reach} {b0 base : Nat} {v : Value} {d : DataW H} {ps : List MemPlace}
    (hval : Value.okWide Try.prog w r b0 64 v) (hd : DataW.Trod enc Try.prog w base (fun _ => true) true 64 v d ps) : ∃ L f, SO 2 w v L f :=
  open_so (t := 64) Try.underlying64 Try.underlying72 (by kernel_rfl) (by kernel_rfl) (fun j f hj => by
    rcases j with _ | _ | j
    · simp at hj; rw [← hj]
    · simp at hj; rw [← hj]
    · simp at hj) (by decide) hval hd

set_option maxRecDepth 100000 in
theorem lifted (os : Os) (started : os.Started) (H : Type) (enc : TypeId × Value → H) :
    ReturnsInHanded {} Try.checked os 12 .any (Rows.bitsClonesSpec.pre6 enc Try.prog Try.f12 Rows.bitsClonesRow.domain false) (Rows.bitsClonesSpec.post enc Try.prog Try.f12 false true false false) := by
  refine returnsInHanded_of_change (C := Try.checked) own started (by kernel_rfl) Try.func12
    (ChangeSpec.witness6 (enc := enc) (C := Try.checked) false ⟨#[], #[.slice none 0 0, .slice none 0 0], []⟩ 8 (by kernel_rfl) (by kernel_rfl) (by kernel_rfl) (by kernel_rfl)) ?_
  intro W base args ds gs before hval0 hW hcnd _
  have hval : ∀ (j : Nat) t v, Try.f12.params[j]? = some t → args[j]? = some v → Value.okWide Try.prog W .any base t v := hval0
  have hW' := hW
  obtain ⟨p, q, hA0, hV, rfl, hfz, hnd⟩ := hW
  have hA : DataW.TrodAll enc Try.prog W 0 (fun _ => true) true Try.f12.params.toList args.toList ds p := hA0
  rw [Try.params12] at hA hval
  obtain ⟨v0, vs0, d0, ds0, p0, q0, hargs, rfl, rfl, h0, r0⟩ := trodAll_cons hA
  obtain ⟨v1, vs1, d1, ds1, p1, q1, rfl, rfl, rfl, h1, r1⟩ := trodAll_cons r0
  obtain ⟨rfl, rfl, rfl⟩ := trodAll_nil r1
  obtain rfl : args = #[v0, v1] := by cases args; simp_all
  obtain ⟨rfl, rfl⟩ := trodVars_none hV
  obtain ⟨L0, f0, s0⟩ := open_ops (hval 0 64 v0 rfl rfl) h0
  obtain ⟨L1, f1, s1⟩ := open_ops (hval 1 64 v1 rfl rfl) h1
  refine (walk v0 v1 L0 L1 f0 f1 W s0 s1).mono fun e W' ⟨he, hb⟩ => ?_
  subst he
  exact ⟨_, rfl, law_post hW' rfl rfl rfl (by kernel_rfl) hb⟩

/-- The statement. -/
theorem proved : Rows.BitsClonesSaid :=
  OpenClaim.holds_of_wide 12 Try.f12 rfl rfl rfl rfl rfl rfl rfl ⟨rfl, rfl, rfl, rfl, rfl⟩ rfl rfl rfl rfl rfl (by kernel_rfl) Try.func12 (by kernel_rfl)
    (of_decide_eq_true (by kernel_rfl)) (by unfold Func.isWrapper; first | (rw [if_pos (by decide +kernel)]; kernel_rfl) | (rw [if_neg (by decide +kernel)]; exact ⟨rfl, rfl⟩))
    (fun os started H enc _ => lifted os started H enc)
#print axioms proved
end Go.Proofs.Ytklhnibmpdaioaa.bitsClones
