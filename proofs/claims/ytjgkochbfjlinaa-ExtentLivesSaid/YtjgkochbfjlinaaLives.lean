/-
  For every size, slice of ops and extent the law ExtentLives of package casematelaw17 returns true, and the arguments read afterwards as before: whatever is admitted, taken, claimed, held and dropped, a field tells what the document says. Condition: none.
-/
import Derived.Test.YtjgkochbfjlinaaRE
import Derived.Deep.QuietTactic
import Derived.BigQuiet
namespace Go.Proofs.Ytjgkochbfjlinaa.extentLives
open Go.ChangeShapes Go.WideShapes Go.ChangeAt Go.RowKit
theorem lim_in (T : Nat → Acc) (t : Int) (h : isIn T t) : lim T t = T t.toNat ∧ chg T t = (T t.toNat).c := by
  unfold lim chg
  rw [if_pos ⟨h.1, h.2.1⟩, if_pos ⟨h.1, h.2.1⟩]
  exact ⟨rfl, rfl⟩
theorem lim_out {N : Nat} {f : Nat → Nat} {T : Nat → Acc} (hI : Inv N f T) (t : Int) (h : ¬ isIn T t) : lim T t = a0 ∧ chg T t = 0 := by
  unfold lim chg
  split
  · rename_i hr
    have hi : (T t.toNat).i = false := by
      cases hq : (T t.toNat).i with
      | false => rfl
      | true => exact absurd ⟨hr.1, hr.2, hq⟩ h
    rw [hI.out _ hi]
    exact ⟨rfl, rfl⟩
  · exact ⟨rfl, rfl⟩
set_option maxRecDepth 100000 in
set_option maxHeartbeats 4000000 in
theorem walk (size : Int) (x : Option Addr) (l c : Nat) (ask : Nat) (ha : ask < 4294967296) (w : World) (h : SV w x l) :
    Calls Try.prog 3 #[.int .i64 size, .slice x l c, .int .u32 ask] w fun e w' => e = .returned (.bool true) ∧ Below w.heap.size w w' := by
  have X := Lib.hid h
  have hl : (l : Int) ≤ 9223372036854775807 := by have := h.1; unfold maxLen at this; omega
  clear h
  by_cases hs1 : 100 < size ∧ size ≤ 2048
  · obtain ⟨s1, s2⟩ := hs1
    go_enter Try.func3, Try.ntmps3
    go_wp2_with fail
    refine (aliveF w).mono ?_
    rintro e w1 ⟨rfl, hb⟩
    have B1 := Lib.hid hb
    clear hb
    go_wp2_with fail
    go_ret
    exact ⟨rfl, B1.out⟩
  · by_cases hs2 : size < 1 ∨ 2048 < size
    · have NF := Lib.hid (newF_no size hs2)
      have NR := Lib.hid (newR_no size hs2)
      have hq : (¬ 100 < size) ∨ (100 < size ∧ ¬ size ≤ 2048) := by omega
      clear hs1 hs2
      rcases hq with q1 | ⟨q1, q2⟩
      all_goals
        go_enter Try.func3, Try.ntmps3
        go_wp2_with fail
        refine (NF.out w).mono ?_
        rintro e w' ⟨rfl, rfl⟩
        go_wp2_with fail
        refine (NR.out w).mono ?_
        rintro e w' ⟨rfl, rfl⟩
        go_wp2_with fail
        go_loopg [11, 12, 13, 14, 15, 16] 0 (fun r v11 _ _ _ _ _ wr => v11 = .int .i64 0 ∧ w = wr)
        case atStart => exact ⟨rfl, rfl⟩
        case round =>
          obtain ⟨rfl, rfl⟩ := hrel
          by_cases h0 : (0 : Int) < l
          · go_wp2_with fail
            refine (aliveF w).mono ?_
            rintro e w1 ⟨rfl, hb⟩
            have B1 := Lib.hid hb
            clear hb
            go_wp2_with fail
            go_ret
            exact ⟨rfl, B1.out⟩
          · go_wp2_with fail
            refine (aliveF w).mono ?_
            rintro e w1 ⟨rfl, hb⟩
            have B1 := Lib.hid hb
            clear hb
            go_wp2_with fail
            go_ret
            exact ⟨rfl, B1.out⟩
    · obtain ⟨N, rfl⟩ : ∃ N : Nat, size = N := ⟨size.toNat, by omega⟩
      have hN1 : 1 ≤ N := by omega
      have hN2 : N ≤ 100 := by omega
      have NF := Lib.hid (newF N hN1 (by omega) w)
      have NR := Lib.hid (newR N hN1 (by omega))
      have q1 : ¬ (100 : Int) < N := by omega
      have HN := Lib.hid (And.intro hN1 hN2)
      have HA := Lib.hid ha
      have hu1 : IntKind.u64.wrap (ask : Int) = ask := by simp [IntKind.wrap, IntKind.bits, IntKind.signed]; omega
      have hu2 : IntKind.u64.wrap (N : Int) = N := by simp [IntKind.wrap, IntKind.bits, IntKind.signed]; omega
      clear hs1 hs2 hN1 hN2 ha
      go_enter Try.func3, Try.ntmps3
      go_wp2_with fail
      refine NF.out.mono ?_
      rintro e w1 ⟨g, rb, mb, wb, rfl, k1, g1, g2, g3, g4, hb⟩
      have F1 : Hid (FS w1 g rb mb wb N z0) := k1
      have B1 := Lib.hid hb
      have HG : Hid (w.heap.size ≤ g ∧ w.heap.size ≤ mb ∧ w.heap.size ≤ wb) := ⟨g1, g3, g4⟩
      clear k1 g1 g2 g3 g4 hb NF
      go_wp2_with fail
      refine (NR.out w1).mono ?_
      rintro e w2 ⟨q, lb, rfl, k2, g1, g2, hb⟩
      have F2 := Lib.hid (FD.below F1.out hb)
      have R2 := Lib.hid k2
      have B2 : Hid (Below w.heap.size w w2) := B1.out.trans (hb.mono B1.out.size)
      have HQ : Hid (w.heap.size ≤ q ∧ w.heap.size ≤ lb) := ⟨Nat.le_trans B1.out.size g1, Nat.le_trans B1.out.size g2⟩
      clear k2 g1 g2 hb NR F1 B1
      go_wp2_with fail
      go_loopg [11, 12, 13, 14, 15, 16] (min l 150) (fun r v11 _ _ _ _ _ wr => ∃ (i : Nat) (s : St), r + i = min l 150 ∧ v11 = .int .i64 i ∧ FS wr g rb mb wb N s ∧ RF wr q lb N s ∧ (∀ j, s.f j ≤ i) ∧ Below w.heap.size w wr)
      case atStart => exact ⟨0, z0, by omega, rfl, F2.out, R2.out, fun _ => Nat.le_refl _, B2.out⟩
      case round =>
        clear F2 R2 B2
        obtain ⟨i, s, hr, rfl, hF, hR, hfb, hb⟩ := hrel
        have F1 := Lib.hid hF
        have R1 := Lib.hid hR
        have FB := Lib.hid hfb
        have B1 := Lib.hid hb
        have HR := Lib.hid hr
        clear hF hR hfb hb
        by_cases hil : i < l
        · by_cases h150 : i < 150
          · obtain ⟨kd, tt, aa, bb, y, gx, ox, rfl, _, hy, _, _, c0, c1, c2, c3, c4⟩ := (X.out.below B1.out).2 i hil
            have ON := Lib.hid (oneC F1.out R1.out (fun j => by have := FB.out j; omega) kd tt aa bb y hy)
            have FB2 := Lib.hid (fb_one (N := N) FB.out kd tt aa bb y)
            have hd1 : decide ((i : Int) < 150) = true := decide_eq_true (by omega)
            have hd2 : decide ((i : Int) < l) = true := decide_eq_true (by omega)
            clear hr hy
            generalize oneS N s kd tt aa bb y = s2 at *
            go_wp2_with fail
            refine ON.out.mono ?_
            rintro e w3 ⟨rfl, k3, r3, m3⟩
            have F3 := Lib.hid k3
            have R3 := Lib.hid r3
            have B3 : Hid (Below w.heap.size w w3) := Mods.below B1.out m3 B1.out.size (fun b hb => by have := HG.out; have := HQ.out; unfold Qt at hb; omega)
            clear k3 r3 m3 c0 c1 c2 c3 c4 F1 R1 B1 ON FB
            go_wp2_with fail
            refine (slackF F3.out).mono ?_
            rintro e w4 ⟨rfl, hb4⟩
            have F4 := Lib.hid (FD.below F3.out hb4)
            have R4 := Lib.hid (R3.out.below hb4)
            have B4 : Hid (Below w.heap.size w w4) := B3.out.trans (hb4.mono B3.out.size)
            clear hb4 F3 R3 B3
            go_wp2_with fail
            refine (slackR R4.out).mono ?_
            rintro e w5 ⟨rfl, hb5⟩
            have F5 := Lib.hid (FD.below F4.out hb5)
            have R5 := Lib.hid (R4.out.below hb5)
            have B5 : Hid (Below w.heap.size w w5) := B4.out.trans (hb5.mono B4.out.size)
            clear hb5 F4 R4 B4
            have SZ := Lib.hid (sizeF F5.out)
            generalize slack N s2.T = sl
            go_wp2_with fail
            refine SZ.out.mono ?_
            rintro e w' ⟨rfl, rfl⟩
            clear SZ
            go_wp2_with fail
            go_loopg [12, 13, 14, 15] 10 (fun r v12 _ _ _ wr => ∃ n : Nat, r + n = 10 ∧ v12 = .int .i64 n ∧ FS wr g rb mb wb N s2 ∧ RF wr q lb N s2 ∧ Below w.heap.size w wr)
            case atStart => exact ⟨0, rfl, rfl, F5.out, R5.out, B5.out⟩
            case round =>
              clear F5 R5 B5
              obtain ⟨n, hr2, rfl, hF, hR, hb⟩ := hrel
              have F5 := Lib.hid hF
              have R5 := Lib.hid hR
              have B5 := Lib.hid hb
              have HR2 := Lib.hid hr2
              clear hF hR hb
              by_cases hn : n ≤ 9
              · have hn2 : (n : Int) ≤ 9 := by omega
                have LI := Lib.hid (limits F5.out n)
                have INN : Hid (∀ w1, RF w1 q lb N s2 → Calls Try.prog 16 #[.pointer (some ⟨q, 0, none⟩), .int .i64 n] w1 fun e w' => e = .returned (.bool (decide (isIn s2.T n))) ∧ w1 = w') := fun w1 k => inR k n
                have CHN : Hid (∀ w1, FS w1 g rb mb wb N s2 → Calls Try.prog 17 #[.pointer (some ⟨g, 0, none⟩), .int .i64 n] w1 fun e w' => e = .returned (.int .i64 (chg s2.T n)) ∧ w1 = w') := fun w1 k => chargeOf k n
                by_cases hin : isIn s2.T n
                · obtain ⟨e1, e2⟩ := lim_in s2.T n hin
                  have hn0 : n < 9 := by have := hin.2.1; omega
                  have h9 : (n : Int) < 9 := by omega
                  have hi := hin.2.2
                  rw [Int.toNat_natCast] at e1 e2 hi
                  rw [decide_eq_true hin] at INN
                  rw [e1] at LI
                  rw [e2] at CHN
                  rw [hi] at LI
                  have AA : Hid (∀ w1, RF w1 q lb N s2 → A4 w1 q (1 + n * 4) (s2.T n)) := fun w1 k => k.a4 n hn0
                  clear hr2 hn hin e1 e2 hi
                  generalize s2.T n = A at LI CHN AA
                  obtain ⟨ai, ar, aq, ac⟩ := A
                  simp only at LI CHN
                  go_wp2_with fail
                  refine LI.out.mono ?_
                  rintro e w6 ⟨rfl, nd, hw6⟩
                  have F6 : Hid (FS w6 g rb mb wb N s2) := by rw [hw6]; exact FD.heap F5.out rfl
                  have R6 : Hid (RF w6 q lb N s2) := by rw [hw6]; exact R5.out.heap rfl
                  have B6 : Hid (Below w.heap.size w w6) := by rw [hw6]; exact ⟨B5.out.os, B5.out.tape, B5.out.output, B5.out.size, B5.out.block⟩
                  obtain ⟨k0, k1, k2, k3⟩ := AA.out w6 R6.out
                  have IQ : Hid (∀ k, Calls Try.prog 16 #[.pointer (some ⟨q, 0, none⟩), .int .i64 n] (w6.drewN k) fun e w' => e = .returned (.bool true) ∧ w' = w6.drewN k) := fun k => (INN.out (w6.drewN k) (R6.out.heap rfl)).mono fun e w' ⟨a, b⟩ => ⟨a, b.symm⟩
                  have CQ : Hid (∀ k, Calls Try.prog 17 #[.pointer (some ⟨g, 0, none⟩), .int .i64 n] (w6.drewN k) fun e w' => e = .returned (.int .i64 ac) ∧ w' = w6.drewN k) := fun k => (CHN.out (w6.drewN k) (FD.heap F6.out rfl)).mono fun e w' ⟨a, b⟩ => ⟨a, b.symm⟩
                  clear hw6 F5 R5 B5 LI INN CHN AA
                  go_wp2_with fail
                  go_quiet ((first | (go_at_call 16; exact Calls.quiet_of_same (IQ.out _)) | (go_at_call 17; exact Calls.quiet_of_same (CQ.out _))))
                  go_wp2_with fail
                  go_roundg (10 - (n + 1))
                  case measure => have := HR2.out; omega
                  case rel => exact ⟨n + 1, by omega, by go_num, FD.heap F6.out rfl, R6.out.heap rfl, ⟨B6.out.os, B6.out.tape, B6.out.output, B6.out.size, B6.out.block⟩⟩
                · obtain ⟨e1, e2⟩ := lim_out F5.out.inv n hin
                  rw [decide_eq_false hin] at INN
                  rw [e1] at LI
                  rw [e2] at CHN
                  clear hr2 hn hin e1 e2
                  unfold a0 at LI
                  simp only at LI
                  go_wp2_with fail
                  refine LI.out.mono ?_
                  rintro e w6 ⟨rfl, nd, hw6⟩
                  have F6 : Hid (FS w6 g rb mb wb N s2) := by rw [hw6]; exact FD.heap F5.out rfl
                  have R6 : Hid (RF w6 q lb N s2) := by rw [hw6]; exact R5.out.heap rfl
                  have B6 : Hid (Below w.heap.size w w6) := by rw [hw6]; exact ⟨B5.out.os, B5.out.tape, B5.out.output, B5.out.size, B5.out.block⟩
                  have IQ : Hid (∀ k, Calls Try.prog 16 #[.pointer (some ⟨q, 0, none⟩), .int .i64 n] (w6.drewN k) fun e w' => e = .returned (.bool false) ∧ w' = w6.drewN k) := fun k => (INN.out (w6.drewN k) (R6.out.heap rfl)).mono fun e w' ⟨a, b⟩ => ⟨a, b.symm⟩
                  have CQ : Hid (∀ k, Calls Try.prog 17 #[.pointer (some ⟨g, 0, none⟩), .int .i64 n] (w6.drewN k) fun e w' => e = .returned (.int .i64 0) ∧ w' = w6.drewN k) := fun k => (CHN.out (w6.drewN k) (FD.heap F6.out rfl)).mono fun e w' ⟨a, b⟩ => ⟨a, b.symm⟩
                  clear hw6 F5 R5 B5 LI INN CHN
                  go_wp2_with fail
                  go_quiet ((first | (go_at_call 16; exact Calls.quiet_of_same (IQ.out _)) | (go_at_call 17; exact Calls.quiet_of_same (CQ.out _))))
                  go_wp2_with fail
                  go_roundg (10 - (n + 1))
                  case measure => have := HR2.out; omega
                  case rel => exact ⟨n + 1, by omega, by go_num, FD.heap F6.out rfl, R6.out.heap rfl, ⟨B6.out.os, B6.out.tape, B6.out.output, B6.out.size, B6.out.block⟩⟩
              · have hn10 : n = 10 := by omega
                subst hn10
                have TI := Lib.hid (timesF F5.out ask HA.out)
                clear hr2 HR2 hn
                by_cases hak : ask < N
                · have hak2 : (ask : Int) < N := by omega
                  have c0 := R5.out.c0
                  obtain ⟨cl, _⟩ := R5.out.at ask hak
                  generalize s2.f ask = m at TI cl
                  go_wp2_with fail
                  refine TI.out.mono ?_
                  rintro e w' ⟨rfl, rfl⟩
                  go_wp2_with fail
                  go_roundg (min l 150 - (i + 1))
                  case measure => have := HR.out; omega
                  case rel => exact ⟨i + 1, s2, by omega, by go_num, F5.out, R5.out, FB2.out, B5.out⟩
                · have hak2 : ¬ (ask : Int) < N := by omega
                  have ez : s2.f ask = 0 := F5.out.row.top ask (by omega)
                  rw [ez] at TI
                  clear ez
                  go_wp2_with fail
                  refine TI.out.mono ?_
                  rintro e w' ⟨rfl, rfl⟩
                  go_wp2_with fail
                  go_roundg (min l 150 - (i + 1))
                  case measure => have := HR.out; omega
                  case rel => exact ⟨i + 1, s2, by omega, by go_num, F5.out, R5.out, FB2.out, B5.out⟩
          · go_wp2_with fail
            refine (aliveF _).mono ?_
            rintro e w2 ⟨rfl, hb2⟩
            have B2 : Hid (Below w.heap.size w w2) := B1.out.trans (hb2.mono B1.out.size)
            clear hb2
            go_wp2_with fail
            go_ret
            exact ⟨rfl, B2.out⟩
        · go_wp2_with fail
          refine (aliveF _).mono ?_
          rintro e w2 ⟨rfl, hb2⟩
          have B2 : Hid (Below w.heap.size w w2) := B1.out.trans (hb2.mono B1.out.size)
          clear hb2
          go_wp2_with fail
          go_ret
          exact ⟨rfl, B2.out⟩

set_option maxRecDepth 100000 in
theorem lifted (os : Os) (started : os.Started) (H : Type) (enc : TypeId × Value → H) :
    ReturnsInHanded {} Try.checked os 3 .any (Rows.extentLivesSpec.pre6 enc Try.prog Try.f3 Rows.extentLivesRow.domain false) (Rows.extentLivesSpec.post enc Try.prog Try.f3 false true false false) := by
  refine returnsInHanded_of_change (C := Try.checked) own started (by kernel_rfl) Try.func3
    (ChangeSpec.witness6 (enc := enc) (C := Try.checked) false ⟨#[], #[.int .i64 0, .slice none 0 0, .int .u32 0], []⟩ 8 (by kernel_rfl) (by kernel_rfl) (by kernel_rfl) (by kernel_rfl)) ?_
  intro W base args ds gs before hval0 hW hcnd _
  have hval : ∀ (j : Nat) t v, Try.f3.params[j]? = some t → args[j]? = some v → Value.okWide Try.prog W .any base t v := hval0
  have hW' := hW
  obtain ⟨p, q, hA0, hV, rfl, hfz, hnd⟩ := hW
  have hA : DataW.TrodAll enc Try.prog W 0 (fun _ => true) true Try.f3.params.toList args.toList ds p := hA0
  rw [Try.params3] at hA hval
  obtain ⟨v0, vs0, d0, ds0, p0, q0, hargs, rfl, rfl, h0, r0⟩ := trodAll_cons hA
  obtain ⟨v1, vs1, d1, ds1, p1, q1, rfl, rfl, rfl, h1, r1⟩ := trodAll_cons r0
  obtain ⟨v2, vs2, d2, ds2, p2, q2, rfl, rfl, rfl, h2, r2⟩ := trodAll_cons r1
  obtain ⟨rfl, rfl, rfl⟩ := trodAll_nil r2
  obtain rfl : args = #[v0, v1, v2] := by cases args; simp_all
  obtain ⟨rfl, rfl⟩ := trodVars_none hV
  obtain ⟨a0, rfl, rfl, rfl, w0⟩ := open_int Try.underlying3 (hval 0 3 v0 rfl rfl) h0
  have b0 := bounds_i64 w0
  obtain ⟨x1, l1, c1, rfl, s1⟩ := open_sv (hval 1 22 v1 rfl rfl) h1
  obtain ⟨a2, rfl, rfl, rfl, w2⟩ := open_int Try.underlying23 (hval 2 23 v2 rfl rfl) h2
  have b2 := bounds_u32 w2
  obtain ⟨m2, rfl⟩ : ∃ m : Nat, a2 = m := ⟨a2.toNat, by omega⟩
  refine (walk a0 x1 l1 c1 m2 (by omega) W s1).mono fun e W' ⟨he, hb⟩ => ?_
  subst he
  exact ⟨_, rfl, law_post hW' rfl rfl rfl (by kernel_rfl) hb⟩

/-- The statement. -/
theorem proved : Rows.ExtentLivesSaid :=
  OpenClaim.holds_of_wide 3 Try.f3 rfl rfl rfl rfl rfl rfl rfl ⟨rfl, rfl, rfl, rfl, rfl⟩ rfl rfl rfl rfl rfl (by kernel_rfl) Try.func3 (by kernel_rfl)
    (of_decide_eq_true (by kernel_rfl)) (by unfold Func.isWrapper; first | (rw [if_pos (by decide +kernel)]; kernel_rfl) | (rw [if_neg (by decide +kernel)]; exact ⟨rfl, rfl⟩))
    (fun os started H enc _ => lifted os started H enc)
#print axioms proved
end Go.Proofs.Ytjgkochbfjlinaa.extentLives
