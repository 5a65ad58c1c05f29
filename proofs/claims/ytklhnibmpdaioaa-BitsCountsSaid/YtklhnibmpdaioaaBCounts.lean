/-
  For every slice of ops and every int the law BitsCounts of package casematelaw12 returns true, and the arguments read afterwards as before: how many are taken is how many places are held; what is held and dropped leaves a row as it was. Condition: none.
-/
import Derived.Test.YtklhnibmpdaioaaE
namespace Go.Proofs.Ytklhnibmpdaioaa.bitsCounts
open Go.ChangeShapes Go.WideShapes Go.ChangeAt Go.RowKit
theorem tm_at (f : Nat → Nat) (i : Nat) : tm f (i : Int) = (f i : Int) := by unfold tm; rw [if_pos (by omega), Int.toNat_natCast]
theorem upd_le {f : Nat → Nat} {n i v : Nat} (h : ∀ j, f j ≤ n) (hv : v ≤ n + 1) : ∀ j, upd f i v j ≤ n + 1 := by
  intro j
  unfold upd
  split
  · exact hv
  · have := h j; omega
theorem hF_le {N n : Nat} {f : Nat → Nat} (h : ∀ j, f j ≤ n) (i : Int) : ∀ j, hF N f i j ≤ n + 1 := by
  unfold hF
  split
  · intro j; have := h j; omega
  · split
    · intro j; have := h j; omega
    · exact upd_le h (by have := h i.toNat; omega)
theorem dF_le {N n : Nat} {f : Nat → Nat} (h : ∀ j, f j ≤ n) (i : Int) : ∀ j, dF N f i j ≤ n + 1 := by
  unfold dF
  split
  · intro j; have := h j; omega
  · split
    · intro j; have := h j; omega
    · exact upd_le h (by have := h i.toNat; omega)
theorem play_le (F : Nat → Nat → Int) : ∀ n j, play F n j ≤ n
  | 0, _ => Nat.le_refl _
  | n + 1, j => by
    have ih := play_le F n
    show stp 150 (play F n) (F n 0) (F n 1) j ≤ n + 1
    unfold stp
    split
    · exact hF_le ih _ j
    · split
      · exact dF_le ih _ j
      · split
        · cases fro 150 (play F n) (F n 1) with
          | some q => exact hF_le ih _ j
          | none => have := ih j; show play F n j ≤ n + 1; omega
        · have := ih j; omega
theorem BR_off {w w' : World} {g N mb wb : Nat} {f : Nat → Nat} {m1 w1 B : Nat} (h : BR w g N mb wb f) (k : Mods (Bt m1 w1) w w') (h1 : B ≤ g) (h2 : B ≤ mb) (h3 : B ≤ wb) (k1 : m1 < B) (k2 : w1 < B) : BR w' g N mb wb f :=
  h.mods k (by unfold Bt; omega) (by unfold Bt; omega) (by unfold Bt; omega)
theorem upd_back (f : Nat → Nat) (a : Nat) : upd (upd f a (f a + 1)) a (f a) = f := by
  funext j
  unfold upd
  by_cases h : j = a
  · rw [if_pos h, h]
  · rw [if_neg h, if_neg h]
set_option maxRecDepth 100000 in
set_option maxHeartbeats 8000000 in
theorem walk (lv : Value) (L : Nat) (F : Nat → Nat → Int) (at' : Int) (h0 : -9223372036854775808 ≤ at') (h1 : at' ≤ 9223372036854775807) (w : World) (h : SO 2 w lv L F) :
    Calls Try.prog 10 #[lv, .int .i64 at'] w fun e w' => e = .returned (.bool true) ∧ Below w.heap.size w w' := by
  have P := Lib.hid (playedB lv L F w h)
  obtain ⟨x, c, rfl, hx1, hx2, _⟩ := h
  have BD : Hid (-9223372036854775808 ≤ at' ∧ at' ≤ 9223372036854775807) := ⟨h0, h1⟩
  clear h0 h1 hx1 hx2
  go_enter Try.func10, Try.ntmps10
  go_wp2_with fail
  refine P.out.mono ?_
  rintro e w1 ⟨g, mb, wb, rfl, r, k1, k2, k3, hb, _⟩
  have R := Lib.hid r
  have B := Lib.hid hb
  have K := Lib.hid (And.intro k2 k3)
  have FB : Hid (∀ j, play F (min L 150) j ≤ 150) := fun j => by have := play_le F (min L 150) j; omega
  clear r hb k1 k2 k3 P
  generalize play F (min L 150) = f at *
  go_wp2_with fail
  go_loopg [7, 8] 150 (fun r vn vi wr => ∃ i : Nat, r + i = 150 ∧ vn = .int .i64 (cnt f i) ∧ vi = .int .i64 i ∧ w1 = wr)
  case atStart => exact ⟨0, rfl, rfl, rfl, rfl⟩
  case round =>
    obtain ⟨i, hr, rfl, rfl, rfl⟩ := hrel
    have HR := Lib.hid hr
    have hci := cnt_le f i
    by_cases hi : i < 150
    · have hiN : (i : Int) < 150 := by omega
      clear hr
      by_cases hf : f i = 0
      · have HT : Hid (tm f (i : Int) = 0) := by show _ = _; rw [tm_at, hf]; rfl
        have HC : Hid (cnt f (i + 1) = cnt f i) := by show cnt f i + _ = _; rw [if_pos hf]; rfl
        clear hf
        go_wp2_with fail
        refine (sizeB R.out).mono ?_
        rintro e w' ⟨rfl, rfl⟩
        go_wp2_with fail
        refine (timesB R.out i (by omega) (by omega)).mono ?_
        rintro e w' ⟨rfl, rfl⟩
        rw [HT.out]
        go_wp2_with fail
        refine (timesB R.out i (by omega) (by omega)).mono ?_
        rintro e w' ⟨rfl, rfl⟩
        rw [HT.out]
        go_wp2_with fail
        go_roundg (150 - (i + 1))
        case measure => have := HR.out; omega
        case rel => exact ⟨i + 1, by omega, by rw [HC.out], by go_num, rfl⟩
      · have HT : Hid (tm f (i : Int) = (f i : Int)) := tm_at f i
        have HC : Hid (cnt f (i + 1) = cnt f i + 1) := by show cnt f i + _ = _; rw [if_neg hf]
        have hf1 : ¬ (f i : Int) < 0 := by omega
        have hf2 : 0 < (f i : Int) := by omega
        clear hf
        go_wp2_with fail
        refine (sizeB R.out).mono ?_
        rintro e w' ⟨rfl, rfl⟩
        go_wp2_with fail
        refine (timesB R.out i (by omega) (by omega)).mono ?_
        rintro e w' ⟨rfl, rfl⟩
        rw [HT.out]
        go_wp2_with fail
        refine (timesB R.out i (by omega) (by omega)).mono ?_
        rintro e w' ⟨rfl, rfl⟩
        rw [HT.out]
        go_wp2_with fail
        go_roundg (150 - (i + 1))
        case measure => have := HR.out; omega
        case rel => exact ⟨i + 1, by omega, by rw [HC.out]; go_num, by go_num, rfl⟩
    · obtain rfl : i = 150 := by omega
      clear hr hi
      go_wp2_with fail
      refine (sizeB R.out).mono ?_
      rintro e w' ⟨rfl, rfl⟩
      go_wp2_with fail
      refine (takenB R.out).mono ?_
      rintro e w' ⟨rfl, rfl⟩
      go_wp2_with fail
      refine (cloneB R.out).mono ?_
      rintro e w2 ⟨g2, mb2, wb2, rfl, r2, q1, q2, q3, hb2⟩
      have S := Lib.hid r2
      have R2 := Lib.hid (R.out.below hb2)
      have B2 : Hid (Below w.heap.size w w2) := B.out.trans (hb2.mono B.out.size)
      have Q : Hid (w1.heap.size ≤ g2 ∧ w1.heap.size ≤ mb2 ∧ w1.heap.size ≤ wb2 ∧ mb < w1.heap.size ∧ wb < w1.heap.size) := ⟨q1, q2, q3, R.out.map.lt, R.out.wds.lt⟩
      have EQ : Hid (eqF 150 f f = true) := by show _ = _; simp [eqF]
      clear r2 hb2 q1 q2 q3 hci
      by_cases hat : at' < 0 ∨ (((150 : Nat) : Int) ≤ at')
      · go_wp2_with fail
        refine (holdB_no R2.out at' hat).mono ?_
        rintro e w' ⟨rfl, rfl⟩
        go_wp2_with fail
        refine (aliveB _).mono ?_
        rintro e w3 ⟨rfl, hb3⟩
        have R3 := Lib.hid (R2.out.below hb3)
        have S3 := Lib.hid (S.out.below hb3)
        have B3 : Hid (Below w.heap.size w w3) := B2.out.trans (hb3.mono B2.out.size)
        clear hb3
        by_cases hneg : at' < 0
        · clear hat
          go_wp2_with fail
          refine (equalB R3.out S3.out).mono ?_
          rintro e w4 ⟨rfl, hb4⟩
          have B4 : Hid (Below w.heap.size w w4) := B3.out.trans (hb4.mono B3.out.size)
          clear hb4
          rw [EQ.out]
          go_wp2_with fail
          go_ret
          exact ⟨rfl, B4.out⟩
        · have hge : 150 ≤ at' := by omega
          clear hat
          go_wp2_with fail
          refine (equalB R3.out S3.out).mono ?_
          rintro e w4 ⟨rfl, hb4⟩
          have B4 : Hid (Below w.heap.size w w4) := B3.out.trans (hb4.mono B3.out.size)
          clear hb4
          rw [EQ.out]
          go_wp2_with fail
          go_ret
          exact ⟨rfl, B4.out⟩
      · obtain ⟨a, rfl⟩ : ∃ a : Nat, at' = a := ⟨at'.toNat, by omega⟩
        have ha : a < 150 := by omega
        clear hat
        have hfa := FB.out a
        go_wp2_with fail
        refine (holdB R2.out a ha (by omega)).mono ?_
        rintro e w3 ⟨rfl, r3, m3⟩
        have R3 := Lib.hid r3
        have S3 := Lib.hid (BR_off S.out m3 Q.out.1 Q.out.2.1 Q.out.2.2.1 Q.out.2.2.2.1 Q.out.2.2.2.2)
        have B3 := Lib.hid (mods_below B2.out m3 B2.out.size K.out.1 K.out.2)
        clear r3 m3
        have NE : Hid (eqF 150 (upd f a (f a + 1)) f = false) := by
          show _ = _
          unfold eqF
          rw [decide_eq_false]
          intro hh
          have := hh a ha
          unfold upd at this
          rw [if_pos rfl] at this
          omega
        go_wp2_with fail
        refine (equalB R3.out S3.out).mono ?_
        rintro e w4 ⟨rfl, hb4⟩
        have R4 := Lib.hid (R3.out.below hb4)
        have S4 := Lib.hid (S3.out.below hb4)
        have B4 : Hid (Below w.heap.size w w4) := B3.out.trans (hb4.mono B3.out.size)
        clear hb4
        rw [NE.out]
        have T1 : Hid (tm (upd f a (f a + 1)) (a : Int) = (f a : Int) + 1) := by show _ = _; rw [tm_at]; unfold upd; rw [if_pos rfl]; rfl
        have T2 : Hid (tm f (a : Int) = (f a : Int)) := tm_at f a
        go_wp2_with fail
        refine (timesB R4.out a (by omega) (by omega)).mono ?_
        rintro e w' ⟨rfl, rfl⟩
        rw [T1.out]
        go_wp2_with fail
        refine (timesB S4.out a (by omega) (by omega)).mono ?_
        rintro e w' ⟨rfl, rfl⟩
        rw [T2.out]
        by_cases hz : f a = 0
        · have DR : Hid (Calls Try.prog 41 #[.pointer (some ⟨g, 0, none⟩), .int .i64 a] w4 (TurnP w4 g 150 mb wb (upd (upd f a (f a + 1)) a (f a)) (.tuple #[.bool true, .int .i64 0]))) := by
            show Calls _ _ _ _ _
            have := dropB_one R4.out a ha (by unfold upd; rw [if_pos rfl, hz])
            rw [hz] at this ⊢
            exact this
          have T3 : Hid ((f a : Int) = 0) := by show _ = _; rw [hz]; rfl
          clear hz
          go_wp2_with fail
          refine DR.out.mono ?_
          rintro e w5 ⟨rfl, r5, m5⟩
          rw [upd_back] at r5
          have R5 := Lib.hid r5
          have S5 := Lib.hid (BR_off S4.out m5 Q.out.1 Q.out.2.1 Q.out.2.2.1 Q.out.2.2.2.1 Q.out.2.2.2.2)
          have B5 := Lib.hid (mods_below B4.out m5 B4.out.size K.out.1 K.out.2)
          clear r5 m5
          go_wp2_with fail
          refine (aliveB _).mono ?_
          rintro e w6 ⟨rfl, hb6⟩
          have R6 := Lib.hid (R5.out.below hb6)
          have S6 := Lib.hid (S5.out.below hb6)
          have B6 : Hid (Below w.heap.size w w6) := B5.out.trans (hb6.mono B5.out.size)
          clear hb6
          go_wp2_with fail
          refine (timesB S6.out a (by omega) (by omega)).mono ?_
          rintro e w' ⟨rfl, rfl⟩
          rw [T2.out, T3.out]
          go_wp2_with fail
          refine (equalB R6.out S6.out).mono ?_
          rintro e w7 ⟨rfl, hb7⟩
          have B7 : Hid (Below w.heap.size w w7) := B6.out.trans (hb7.mono B6.out.size)
          clear hb7
          rw [EQ.out]
          go_wp2_with fail
          go_ret
          exact ⟨rfl, B7.out⟩
        · have DR : Hid (Calls Try.prog 41 #[.pointer (some ⟨g, 0, none⟩), .int .i64 a] w4 (TurnP w4 g 150 mb wb (upd (upd f a (f a + 1)) a (f a)) (.tuple #[.bool false, .int .i64 0]))) := by
            show Calls _ _ _ _ _
            have := dropB_more R4.out a ha (by unfold upd; rw [if_pos rfl]; omega)
            have e1 : upd f a (f a + 1) a - 1 = f a := by unfold upd; rw [if_pos rfl]; rfl
            rw [e1] at this
            exact this
          have T3 : ((f a : Int) == 0) = false := by simp; omega
          clear hz
          go_wp2_with fail
          refine DR.out.mono ?_
          rintro e w5 ⟨rfl, r5, m5⟩
          rw [upd_back] at r5
          have R5 := Lib.hid r5
          have S5 := Lib.hid (BR_off S4.out m5 Q.out.1 Q.out.2.1 Q.out.2.2.1 Q.out.2.2.2.1 Q.out.2.2.2.2)
          have B5 := Lib.hid (mods_below B4.out m5 B4.out.size K.out.1 K.out.2)
          clear r5 m5
          go_wp2_with fail
          refine (aliveB _).mono ?_
          rintro e w6 ⟨rfl, hb6⟩
          have R6 := Lib.hid (R5.out.below hb6)
          have S6 := Lib.hid (S5.out.below hb6)
          have B6 : Hid (Below w.heap.size w w6) := B5.out.trans (hb6.mono B5.out.size)
          clear hb6
          go_wp2_with fail
          refine (timesB S6.out a (by omega) (by omega)).mono ?_
          rintro e w' ⟨rfl, rfl⟩
          rw [T2.out]
          go_wp2_with fail
          refine (equalB R6.out S6.out).mono ?_
          rintro e w7 ⟨rfl, hb7⟩
          have B7 : Hid (Below w.heap.size w w7) := B6.out.trans (hb7.mono B6.out.size)
          clear hb7
          rw [EQ.out]
          go_wp2_with fail
          go_ret
          exact ⟨rfl, B7.out⟩

set_option maxRecDepth 100000 in
theorem open_ops {H : Type} {enc : TypeId × Value → H} {w : World} {r : Reach} {b0 base : Nat} {v : Value} {d : DataW H} {ps : List MemPlace}
    (hval : Value.okWide Try.prog w r b0 64 v) (hd : DataW.Trod enc Try.prog w base (fun _ => true) true 64 v d ps) : ∃ L f, SO 2 w v L f :=
  open_so (t := 64) Try.underlying64 Try.underlying72 (by kernel_rfl) (by kernel_rfl) (fun j f hj => by
    rcases j with _ | _ | j
    · simp at hj; rw [← hj]
    · simp at hj; rw [← hj]
    · simp at hj) (by decide) hval hd

set_option maxRecDepth 100000 in
theorem lifted (os : Os) (started : os.Started) (H : Type) (enc : TypeId × Value → H) :
    ReturnsInHanded {} Try.checked os 10 .any (Rows.bitsCountsSpec.pre6 enc Try.prog Try.f10 Rows.bitsCountsRow.domain false) (Rows.bitsCountsSpec.post enc Try.prog Try.f10 false true false false) := by
  refine returnsInHanded_of_change (C := Try.checked) own started (by kernel_rfl) Try.func10
    (ChangeSpec.witness6 (enc := enc) (C := Try.checked) false ⟨#[], #[.slice none 0 0, .int .i64 0], []⟩ 8 (by kernel_rfl) (by kernel_rfl) (by kernel_rfl) (by kernel_rfl)) ?_
  intro W base args ds gs before hval0 hW hcnd _
  have hval : ∀ (j : Nat) t v, Try.f10.params[j]? = some t → args[j]? = some v → Value.okWide Try.prog W .any base t v := hval0
  have hW' := hW
  obtain ⟨p, q, hA0, hV, rfl, hfz, hnd⟩ := hW
  have hA : DataW.TrodAll enc Try.prog W 0 (fun _ => true) true Try.f10.params.toList args.toList ds p := hA0
  rw [Try.params10] at hA hval
  obtain ⟨v0, vs0, d0, ds0, p0, q0, hargs, rfl, rfl, h0, r0⟩ := trodAll_cons hA
  obtain ⟨v1, vs1, d1, ds1, p1, q1, rfl, rfl, rfl, h1, r1⟩ := trodAll_cons r0
  obtain ⟨rfl, rfl, rfl⟩ := trodAll_nil r1
  obtain rfl : args = #[v0, v1] := by cases args; simp_all
  obtain ⟨rfl, rfl⟩ := trodVars_none hV
  obtain ⟨L0, f0, s0⟩ := open_ops (hval 0 64 v0 rfl rfl) h0
  obtain ⟨a1, rfl, rfl, rfl, w1⟩ := open_int Try.underlying3 (hval 1 3 v1 rfl rfl) h1
  have b1 := bounds_i64 w1
  refine (walk v0 L0 f0 a1 b1.1 b1.2 W s0).mono fun e W' ⟨he, hb⟩ => ?_
  subst he
  exact ⟨_, rfl, law_post hW' rfl rfl rfl (by kernel_rfl) hb⟩

/-- The statement. -/
theorem proved : Rows.BitsCountsSaid :=
  OpenClaim.holds_of_wide 10 Try.f10 rfl rfl rfl rfl rfl rfl rfl ⟨rfl, rfl, rfl, rfl, rfl⟩ rfl rfl rfl rfl rfl (by kernel_rfl) Try.func10 (by kernel_rfl)
    (of_decide_eq_true (by kernel_rfl)) (by unfold Func.isWrapper; first | (rw [if_pos (by decide +kernel)]; kernel_rfl) | (rw [if_neg (by decide +kernel)]; exact ⟨rfl, rfl⟩))
    (fun os started H enc _ => lifted os started H enc)
#print axioms proved
end Go.Proofs.Ytklhnibmpdaioaa.bitsCounts
