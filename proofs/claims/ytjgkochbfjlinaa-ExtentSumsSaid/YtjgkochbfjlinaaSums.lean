/-
  For every slice of ops the law ExtentSums of package casematelaw17 returns true, and the argument reads afterwards as before: all charges together are as many extents as are not free; none is below 0, or above its quota; Slack is never below 0, and the reserves go into the field. Condition: none.
-/
import Derived.Test.YtjgkochbfjlinaaL
namespace Go.Proofs.Ytjgkochbfjlinaa.extentSums
open Go.ChangeShapes Go.WideShapes Go.ChangeAt Go.RowKit
def cC (T : Nat → Acc) : Nat → Int := fun k => (T k).c
def cR (T : Nat → Acc) : Nat → Int := fun k => (T k).r
theorem sumC {w : World} {g rb mb wb N : Nat} {s : St} (h : FS w g rb mb wb N s) : pre (cC s.T) 9 = cnt s.f N ∧ (∀ n, n ≤ 9 → 0 ≤ pre (cC s.T) n ∧ pre (cC s.T) n ≤ N) ∧ (∀ n, n ≤ 9 → 0 ≤ pre (cR s.T) n ∧ pre (cR s.T) n ≤ N) := by
  have e : pre (cC s.T) 9 = cnt s.f N := by rw [pre_nine _ (by show (s.T 0).c = 0; rw [h.inv.z]; rfl)]; exact h.inv.sum
  have hc : ∀ t, 0 ≤ cC s.T t := fun t => (h.inv.cq t).1
  have hr : ∀ t, 0 ≤ cR s.T t := fun t => (h.inv.rq t).1
  have e2 : pre (cR s.T) 9 ≤ N := by
    rw [pre_nine _ (by show (s.T 0).r = 0; rw [h.inv.z]; rfl)]
    have h1 := sum9_le (cR s.T) (fun t => (s.T t).sh) (fun t => by show (s.T t).r ≤ max (s.T t).r (s.T t).c; omega)
    have h2 := h.inv.sl
    unfold slack at h2
    omega
  refine ⟨e, fun n hn => ?_, fun n hn => ?_⟩
  · have h1 := pre_mono _ hc 0 n
    have h2 := pre_mono _ hc n (9 - n)
    rw [Nat.zero_add] at h1
    rw [show n + (9 - n) = 9 by omega, e] at h2
    have h3 := cnt_le s.f N
    have : pre (cC s.T) 0 = 0 := rfl
    omega
  · have h1 := pre_mono _ hr 0 n
    have h2 := pre_mono _ hr n (9 - n)
    rw [Nat.zero_add] at h1
    rw [show n + (9 - n) = 9 by omega] at h2
    have : pre (cR s.T) 0 = 0 := rfl
    omega
set_option maxRecDepth 100000 in
set_option maxHeartbeats 8000000 in
theorem walk (x : Option Addr) (l c : Nat) (w : World) (h : SV w x l) :
    Calls Try.prog 5 #[.slice x l c] w fun e w' => e = .returned (.bool true) ∧ Below w.heap.size w w' := by
  have X := Lib.hid h
  have hl : (l : Int) ≤ 9223372036854775807 := by have := h.1; unfold maxLen at this; omega
  have BG := Lib.hid (beginC 30 (by omega) (by omega) w)
  clear h
  go_enter Try.func5, Try.ntmps5
  go_wp2_with fail
  refine BG.out.mono ?_
  rintro e w1 ⟨og, wh, g, rb, mb, wb, rfl, o1, h1, h2, h3, h4, h5, h6, hb⟩
  have O0 := Lib.hid o1
  have B0 := Lib.hid hb
  have HG : Hid (w.heap.size ≤ g ∧ w.heap.size ≤ mb ∧ w.heap.size ≤ wb ∧ w.heap.size ≤ wh) := ⟨h1, h2, h3, h4⟩
  clear o1 hb h1 h2 h3 h4 h5 h6 BG
  go_wp2_with fail
  go_loopg [5, 6, 7, 8, 9, 10, 11, 12, 13, 14] (min l 150) (fun r vi _ _ _ _ _ _ _ _ _ wr => ∃ (i : Nat) (s : St) (W : Nat → Int), r + i = min l 150 ∧ vi = .int .i64 i ∧ OD wr og wh g rb mb wb 30 s W ∧ Below w.heap.size w wr)
  case atStart => exact ⟨0, z0, fun _ => 0, by omega, rfl, O0.out, B0.out⟩
  case round =>
    clear O0 B0
    obtain ⟨i, s, W, hr, rfl, ho, hb⟩ := hrel
    have O1 := Lib.hid ho
    have B1 := Lib.hid hb
    clear ho hb
    by_cases hlt : i < l
    · by_cases h150 : i < 150
      · obtain ⟨kd, tt, aa, bb, y, gx, ox, rfl, _, hy, _, _, c0, c1, c2, c3, c4⟩ := (X.out.below B1.out).2 i hlt
        have HR := Lib.hid hr
        have DO := Lib.hid (doC O1.out kd tt aa bb y hy)
        have hd1 : decide ((i : Int) < 150) = true := decide_eq_true (by omega)
        clear hr hy
        go_wp2_with fail
        refine DO.out.mono ?_
        rintro e w2 ⟨rfl, o2, m2⟩
        clear DO c0 c1 c2 c3 c4
        generalize doS 30 s W kd tt aa bb y = rr at *
        obtain ⟨⟨rx, rc⟩, s2, W2⟩ := rr
        simp only at o2 ⊢
        have O2 := Lib.hid o2
        have B2 := Lib.hid (Dt_below B1.out m2 B1.out.size HG.out.1 HG.out.2.1 HG.out.2.2.1 HG.out.2.2.2)
        have oc0 := o2.c0
        have SC := Lib.hid (sumC o2.fs)
        have hk30 := cnt_le s2.f 30
        clear o2 m2 O1 B1
        go_wp2_with fail
        go_loopg [6, 9] 30 (fun r v6 v9 wr => ∃ e : Nat, r + e = 30 ∧ v6 = .int .i64 (cnt s2.f e) ∧ v9 = .int .u32 e ∧ w2 = wr)
        case atStart => exact ⟨0, rfl, rfl, rfl, rfl⟩
        case round =>
          obtain ⟨n, hr2, rfl, rfl, rfl⟩ := hrel
          have HR2 := Lib.hid hr2
          have hcn := cnt_le s2.f n
          by_cases hn : n < 30
          · have hn2 : (n : Int) < 30 := by omega
            have TI := Lib.hid (timesF O2.out.fs n (by omega))
            have CN : Hid (cnt s2.f (n + 1) = cnt s2.f n + (if s2.f n = 0 then 0 else 1)) := rfl
            clear hr2
            by_cases hf : s2.f n = 0
            · rw [if_pos hf] at CN
              rw [hf] at TI
              clear hf
              go_wp2_with fail
              refine TI.out.mono ?_
              rintro e w' ⟨rfl, rfl⟩
              go_wp2_with fail
              go_roundg (30 - (n + 1))
              case measure => have := HR2.out; omega
              case rel => exact ⟨n + 1, by omega, by rw [CN.out]; rfl, by go_num, rfl⟩
            · rw [if_neg hf] at CN
              have hf2 : 0 < (s2.f n : Int) := by omega
              clear hf
              go_wp2_with fail
              refine TI.out.mono ?_
              rintro e w' ⟨rfl, rfl⟩
              go_wp2_with fail
              go_roundg (30 - (n + 1))
              case measure => have := HR2.out; omega
              case rel => exact ⟨n + 1, by omega, by rw [CN.out]; go_num, by go_num, rfl⟩
          · have hn2 : n = 30 := by omega
            subst hn2
            clear hr2 HR2 hn hcn
            go_wp2_with fail
            go_loopg [7, 8, 10, 11, 12, 13, 14] 8 (fun r v7 v8 v10 _ _ _ _ wr => ∃ n : Nat, r + n = 9 ∧ 1 ≤ n ∧ v7 = .int .i64 (pre (cC s2.T) n) ∧ v8 = .int .i64 (pre (cR s2.T) n) ∧ v10 = .int .i64 n ∧ OD wr og wh g rb mb wb 30 s2 W2 ∧ Below w.heap.size w wr)
            case atStart =>
              have hz : s2.T 0 = a0 := O2.out.fs.inv.z
              exact ⟨1, rfl, Nat.le_refl _, by show Value.int .i64 0 = .int .i64 (0 + (s2.T 0).c); rw [hz]; rfl, by show Value.int .i64 0 = .int .i64 (0 + (s2.T 0).r); rw [hz]; rfl, rfl, O2.out, B2.out⟩
            case round =>
              clear O2 B2 oc0
              obtain ⟨n, hr2, hn1, rfl, rfl, rfl, ho, hb⟩ := hrel
              have O2 := Lib.hid ho
              have B2 := Lib.hid hb
              have oc0 := ho.c0
              clear ho hb
              have HR2 := Lib.hid hr2
              by_cases hn : n ≤ 8
              · have hn2 : (n : Int) ≤ 8 := by omega
                have hn3 : 1 ≤ (n : Int) := by omega
                have pc := SC.out.2.1 n (by omega)
                have pr := SC.out.2.2 n (by omega)
                have pc2 := (SC.out.2.1 (n + 1) (by omega)).2
                have pr2 := (SC.out.2.2 (n + 1) (by omega)).2
                have EC : Hid (pre (cC s2.T) (n + 1) = pre (cC s2.T) n + (s2.T n).c) := rfl
                have ER : Hid (pre (cR s2.T) (n + 1) = pre (cR s2.T) n + (s2.T n).r) := rfl
                rw [EC.out] at pc2
                rw [ER.out] at pr2
                obtain ⟨pc0, pc1⟩ := pc
                obtain ⟨pr0, pr1⟩ := pr
                have el : lim s2.T n = s2.T n := by unfold lim; rw [if_pos ⟨by omega, by omega⟩]; rfl
                have ec : chg s2.T n = (s2.T n).c := by unfold chg; rw [if_pos ⟨by omega, by omega⟩]; rfl
                have LI : Hid (Calls Try.prog 15 #[.pointer (some ⟨g, 0, none⟩), .int .i64 n] wr fun e w' => e = .returned (.tuple #[.int .i64 (s2.T n).r, .int .i64 (s2.T n).q, .bool (s2.T n).i]) ∧ ∃ n, w' = wr.drewN n) := by have := limits O2.out.fs n; rw [el] at this; exact this
                have CH : Hid (∀ w1, FS w1 g rb mb wb 30 s2 → Calls Try.prog 17 #[.pointer (some ⟨g, 0, none⟩), .int .i64 n] w1 fun e w' => e = .returned (.int .i64 (s2.T n).c) ∧ w1 = w') := fun w1 k => by have := chargeOf k n; rw [ec] at this; exact this
                have q1 := (O2.out.fs.inv.cq n).1
                have q2 := (O2.out.fs.inv.cq n).2
                have q3 := (O2.out.fs.inv.rq n).1
                have OT := Lib.hid (O2.out.fs.inv.out n)
                clear hr2 el ec hn hn1
                generalize pre (cC s2.T) n = PC at *
                generalize pre (cR s2.T) n = PR at *
                have EN : Hid (∃ A, s2.T n = A) := ⟨_, rfl⟩
                obtain ⟨A, hA⟩ := EN.out
                rw [hA] at LI CH q1 q2 q3 pc2 pr2 EC ER OT
                clear hA EN
                obtain ⟨ai, ar, aq, ac⟩ := A
                simp only at LI CH q1 q2 q3 pc2 pr2 EC ER OT
                cases ai with
                | true =>
                  clear OT
                  have hng : ¬ ac < 0 := by omega
                  have hnq : ¬ aq < ac := by omega
                  go_wp2_with fail
                  refine LI.out.mono ?_
                  rintro e w3 ⟨rfl, nd, hw3⟩
                  have O3 : Hid (OD w3 og wh g rb mb wb 30 s2 W2) := by rw [hw3]; exact O2.out.heap rfl
                  have B3 : Hid (Below w.heap.size w w3) := by rw [hw3]; exact ⟨B2.out.os, B2.out.tape, B2.out.output, B2.out.size, B2.out.block⟩
                  have a3 := O3.out.c0
                  clear hw3
                  go_wp2_with fail
                  refine (CH.out w3 O3.out.fs).mono ?_
                  rintro e w' ⟨rfl, rfl⟩
                  go_wp2_with fail
                  go_roundg (8 - n)
                  case measure => have := HR2.out; omega
                  case rel => exact ⟨n + 1, by omega, by omega, by rw [EC.out], by rw [ER.out], by go_num, O3.out, B3.out⟩
                | false =>
                  have ho := OT.out rfl
                  unfold a0 at ho
                  injection ho with _ hr hq hc
                  subst hr hq hc
                  clear OT
                  go_wp2_with fail
                  refine LI.out.mono ?_
                  rintro e w3 ⟨rfl, nd, hw3⟩
                  have O3 : Hid (OD w3 og wh g rb mb wb 30 s2 W2) := by rw [hw3]; exact O2.out.heap rfl
                  have B3 : Hid (Below w.heap.size w w3) := by rw [hw3]; exact ⟨B2.out.os, B2.out.tape, B2.out.output, B2.out.size, B2.out.block⟩
                  have a3 := O3.out.c0
                  clear hw3
                  go_wp2_with fail
                  refine (CH.out w3 O3.out.fs).mono ?_
                  rintro e w' ⟨rfl, rfl⟩
                  go_wp2_with fail
                  go_roundg (8 - n)
                  case measure => have := HR2.out; omega
                  case rel => exact ⟨n + 1, by omega, by omega, by rw [EC.out]; go_num, by rw [ER.out]; go_num, by go_num, O3.out, B3.out⟩
              · have hn9 : n = 9 := by omega
                subst hn9
                have e9 := SC.out.1
                have r9 := (SC.out.2.2 9 (by omega)).2
                have r90 : ¬ (30 : Int) < pre (cR s2.T) 9 := by omega
                rw [e9]
                have SL := Lib.hid (slackF O2.out.fs)
                have s0 := O2.out.fs.inv.sl
                have s1 : ¬ slack 30 s2.T < 0 := by omega
                clear e9 r9 hr2 HR2 hn hn1 SC s0
                generalize slack 30 s2.T = sk at *
                generalize cnt s2.f 30 = K at *
                generalize pre (cR s2.T) 9 = PR at *
                go_wp2_with fail
                refine SL.out.mono ?_
                rintro e w3 ⟨rfl, hb3⟩
                have O3 := Lib.hid (O2.out.below hb3)
                have B3 : Hid (Below w.heap.size w w3) := B2.out.trans (hb3.mono B2.out.size)
                clear hb3
                go_wp2_with fail
                go_roundg (min l 150 - (i + 1))
                case measure => have := HR.out; omega
                case rel => exact ⟨i + 1, s2, W2, by omega, by go_num, O3.out, B3.out⟩
      · go_wp2_with fail
        refine (aliveF _).mono ?_
        rintro e w2 ⟨rfl, hb2⟩
        have B2 : Hid (Below w.heap.size w w2) := B1.out.trans (hb2.mono B1.out.size)
        clear hb2
        go_wp2_with fail
        go_ret
        exact ⟨rfl, B2.out⟩
    · go_wp2_with fail
      refine (aliveF _).mono ?_
      rintro e w2 ⟨rfl, hb2⟩
      have B2 : Hid (Below w.heap.size w w2) := B1.out.trans (hb2.mono B1.out.size)
      clear hb2
      go_wp2_with fail
      go_ret
      exact ⟨rfl, B2.out⟩

set_option maxRecDepth 100000 in
theorem lifted (os : Os) (started : os.Started) (H : Type) (enc : TypeId × Value → H) :
    ReturnsInHanded {} Try.checked os 5 .any (Rows.extentSumsSpec.pre6 enc Try.prog Try.f5 Rows.extentSumsRow.domain false) (Rows.extentSumsSpec.post enc Try.prog Try.f5 false true false false) := by
  refine returnsInHanded_of_change (C := Try.checked) own started (by kernel_rfl) Try.func5
    (ChangeSpec.witness6 (enc := enc) (C := Try.checked) false ⟨#[], #[.slice none 0 0], []⟩ 8 (by kernel_rfl) (by kernel_rfl) (by kernel_rfl) (by kernel_rfl)) ?_
  intro W base args ds gs before hval0 hW hcnd _
  have hval : ∀ (j : Nat) t v, Try.f5.params[j]? = some t → args[j]? = some v → Value.okWide Try.prog W .any base t v := hval0
  have hW' := hW
  obtain ⟨p, q, hA0, hV, rfl, hfz, hnd⟩ := hW
  have hA : DataW.TrodAll enc Try.prog W 0 (fun _ => true) true Try.f5.params.toList args.toList ds p := hA0
  rw [Try.params5] at hA hval
  obtain ⟨v0, vs0, d0, ds0, p0, q0, hargs, rfl, rfl, h0, r0⟩ := trodAll_cons hA
  obtain ⟨rfl, rfl, rfl⟩ := trodAll_nil r0
  obtain rfl : args = #[v0] := by cases args; simp_all
  obtain ⟨rfl, rfl⟩ := trodVars_none hV
  obtain ⟨x0, l0, c0, rfl, s0⟩ := open_sv (hval 0 22 v0 rfl rfl) h0
  refine (walk x0 l0 c0 W s0).mono fun e W' ⟨he, hb⟩ => ?_
  subst he
  exact ⟨_, rfl, law_post hW' rfl rfl rfl (by kernel_rfl) hb⟩

/-- The statement. -/
theorem proved : Rows.ExtentSumsSaid :=
  OpenClaim.holds_of_wide 5 Try.f5 rfl rfl rfl rfl rfl rfl rfl ⟨rfl, rfl, rfl, rfl, rfl⟩ rfl rfl rfl rfl rfl (by kernel_rfl) Try.func5 (by kernel_rfl)
    (of_decide_eq_true (by kernel_rfl)) (by unfold Func.isWrapper; first | (rw [if_pos (by decide +kernel)]; kernel_rfl) | (rw [if_neg (by decide +kernel)]; exact ⟨rfl, rfl⟩))
    (fun os started H enc _ => lifted os started H enc)
#print axioms proved
end Go.Proofs.Ytjgkochbfjlinaa.extentSums
