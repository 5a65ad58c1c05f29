/-
  For every slice of ops the law ExtentReserve of package casematelaw17 returns true, and the argument reads afterwards as before: a tenant whose charge is below its reserve can take one, whatever the others took. Condition: none.
-/
import Derived.Test.YtjgkochbfjlinaaL
namespace Go.Proofs.Ytjgkochbfjlinaa.extentReserve
open Go.ChangeShapes Go.WideShapes Go.ChangeAt Go.RowKit
/-- Below its reserve a tenant can take one; and dropped again all is as before. -/
theorem back {w : World} {g rb mb wb N : Nat} {s : St} (h : FS w g rb mb wb N s) (n : Nat) (h1 : 1 ≤ n) (h8 : n ≤ 8) (hi : (s.T n).i = true) (hc : (s.T n).c < (s.T n).r) :
    (sTak N s n).1 = 0 ∧ xTak N s n < N ∧ (sTak N s n).2.f (xTak N s n) = 1 ∧ sDrp N (sTak N s n).2 n (xTak N s n) = (0, s) := by
  have hq := (h.inv.rq n).2.1
  have hin : isIn s.T (n : Int) := ⟨by omega, by omega, hi⟩
  have hr : roomC N s.T n = 0 := by
    unfold roomC
    rw [if_neg (by omega), if_neg (by omega)]
  have e0 : sTak N s n = (0, ⟨upd s.f (fst s.f N) (s.f (fst s.f N) + 1), addT s.T n 1⟩) := by
    unfold sTak
    rw [if_pos hin, Int.toNat_natCast]
    unfold sGet
    rw [if_pos hr]
  have e1 : (sTak N s n).1 = 0 := by rw [e0]
  have e2 : xTak N s n = fst s.f N := by unfold xTak; rw [if_pos e1]
  have hx : xTak N s n < N := sTak_lt h n e1
  have hf : s.f (fst s.f N) = 0 := (fst_spec s.f N).2.2 (by rw [← e2]; exact hx)
  refine ⟨e1, hx, ?_, ?_⟩
  · rw [e2, e0]; show upd s.f (fst s.f N) (s.f (fst s.f N) + 1) (fst s.f N) = 1; unfold upd; rw [if_pos rfl, hf]
  · rw [e2] at hx ⊢
    rw [e0]
    generalize fst s.f N = x at *
    unfold sDrp
    have hA : addT s.T n 1 n = ⟨(s.T n).i, (s.T n).r, (s.T n).q, (s.T n).c + 1⟩ := updT_self _ _ _
    have hin2 : isIn (addT s.T n 1) (n : Int) := ⟨by omega, by omega, by rw [Int.toNat_natCast, hA]; exact hi⟩
    have hu : upd s.f x (s.f x + 1) x = 1 := by unfold upd; rw [if_pos rfl, hf]
    have hc0 := (h.inv.cq n).1
    simp only [Int.toNat_natCast]
    rw [if_pos hx, if_pos hin2, if_neg (by rw [hA, hu]; show ¬ ((s.T n).c + 1 = 0 ∨ 1 = 0); omega), if_pos hu, hu]
    have h3 : upd (upd s.f x (s.f x + 1)) x (1 - 1) = s.f := by
      funext j; unfold upd; by_cases hj : j = x
      · rw [if_pos hj, hj, hf]
      · rw [if_neg hj, if_neg hj]
    have h4 : addT (addT s.T n 1) n (-1) = s.T := by
      unfold addT
      rw [updT_twice, updT_self]
      show updT s.T n ⟨(s.T n).i, (s.T n).r, (s.T n).q, (s.T n).c + 1 + -1⟩ = s.T
      rw [show (s.T n).c + 1 + -1 = (s.T n).c by omega]
      exact updT_get s.T n
    rw [h3, h4]
set_option maxRecDepth 100000 in
set_option maxHeartbeats 8000000 in
theorem walk (x : Option Addr) (l c : Nat) (w : World) (h : SV w x l) :
    Calls Try.prog 6 #[.slice x l c] w fun e w' => e = .returned (.bool true) ∧ Below w.heap.size w w' := by
  have X := Lib.hid h
  have hl : (l : Int) ≤ 9223372036854775807 := by have := h.1; unfold maxLen at this; omega
  have BG := Lib.hid (beginC 30 (by omega) (by omega) w)
  clear h
  go_enter Try.func6, Try.ntmps6
  go_wp2_with fail
  refine BG.out.mono ?_
  rintro e w1 ⟨og, wh, g, rb, mb, wb, rfl, o1, h1, h2, h3, h4, h5, h6, hb⟩
  have O0 := Lib.hid o1
  have B0 := Lib.hid hb
  have HG : Hid (w.heap.size ≤ g ∧ w.heap.size ≤ mb ∧ w.heap.size ≤ wb ∧ w.heap.size ≤ wh) := ⟨h1, h2, h3, h4⟩
  clear o1 hb h1 h2 h3 h4 h5 h6 BG
  go_wp2_with fail
  go_loopg [5, 6, 7, 8, 9, 10, 11] (min l 120) (fun r vi _ _ _ _ _ _ wr => ∃ (i : Nat) (s : St) (W : Nat → Int), r + i = min l 120 ∧ vi = .int .i64 i ∧ OD wr og wh g rb mb wb 30 s W ∧ Below w.heap.size w wr)
  case atStart => exact ⟨0, z0, fun _ => 0, by omega, rfl, O0.out, B0.out⟩
  case round =>
    clear O0 B0
    obtain ⟨i, s, W, hr, rfl, ho, hb⟩ := hrel
    have O1 := Lib.hid ho
    have B1 := Lib.hid hb
    clear ho hb
    by_cases hlt : i < l
    · by_cases h120 : i < 120
      · obtain ⟨kd, tt, aa, bb, y, gx, ox, rfl, _, hy, _, _, c0, c1, c2, c3, c4⟩ := (X.out.below B1.out).2 i hlt
        have HR := Lib.hid hr
        have DO := Lib.hid (doC O1.out kd tt aa bb y hy)
        have hd1 : decide ((i : Int) < 120) = true := decide_eq_true (by omega)
        clear hr hy
        go_wp2_with fail
        refine DO.out.mono ?_
        rintro e w2 ⟨rfl, o2, m2⟩
        clear DO c0 c1 c2 c3 c4
        generalize doS 30 s W kd tt aa bb y = rr at *
        obtain ⟨⟨rx, rc⟩, s2, W2⟩ := rr
        simp only at o2 ⊢
        have O2 := Lib.hid o2
        have B2 := Lib.hid (Dt_below B1.out m2 B1.out.size HG.out.1 HG.out.2.1 HG.out.2.2.1 HG.out.2.2.2)
        clear o2 m2 O1 B1
        go_wp2_with fail
        go_loopg [6, 7, 8, 9, 10, 11] 8 (fun r v6 _ _ _ _ _ wr => ∃ n : Nat, r + n = 9 ∧ 1 ≤ n ∧ v6 = .int .i64 n ∧ OD wr og wh g rb mb wb 30 s2 W2 ∧ Below w.heap.size w wr)
        case atStart => exact ⟨1, rfl, Nat.le_refl _, rfl, O2.out, B2.out⟩
        case round =>
          clear O2 B2
          obtain ⟨n, hr2, hn1, rfl, ho, hb⟩ := hrel
          have O2 := Lib.hid ho
          have B2 := Lib.hid hb
          have oc0 := ho.c0
          clear ho hb
          have HR2 := Lib.hid hr2
          by_cases hn : n ≤ 8
          · have hn2 : (n : Int) ≤ 8 := by omega
            have hn3 : 1 ≤ (n : Int) := by omega
            have HN : Hid (1 ≤ n ∧ n ≤ 8) := ⟨hn1, hn⟩
            have el : lim s2.T n = s2.T n := by unfold lim; rw [if_pos ⟨by omega, by omega⟩]; rfl
            have ec : chg s2.T n = (s2.T n).c := by unfold chg; rw [if_pos ⟨by omega, by omega⟩]; rfl
            have LI : Hid (Calls Try.prog 15 #[.pointer (some ⟨g, 0, none⟩), .int .i64 n] wr fun e w' => e = .returned (.tuple #[.int .i64 (s2.T n).r, .int .i64 (s2.T n).q, .bool (s2.T n).i]) ∧ ∃ n, w' = wr.drewN n) := by have := limits O2.out.fs n; rw [el] at this; exact this
            have CH : Hid (∀ w1, FS w1 g rb mb wb 30 s2 → Calls Try.prog 17 #[.pointer (some ⟨g, 0, none⟩), .int .i64 n] w1 fun e w' => e = .returned (.int .i64 (s2.T n).c) ∧ w1 = w') := fun w1 k => by have := chargeOf k n; rw [ec] at this; exact this
            have BK : Hid ((s2.T n).i = true → (s2.T n).c < (s2.T n).r → (sTak 30 s2 n).1 = 0 ∧ xTak 30 s2 n < 30 ∧ (sTak 30 s2 n).2.f (xTak 30 s2 n) = 1 ∧ sDrp 30 (sTak 30 s2 n).2 n (xTak 30 s2 n) = (0, s2)) := fun h1 h2 => back O2.out.fs n HN.out.1 HN.out.2 h1 h2
            clear hr2 el ec hn hn1
            have EN : Hid (∃ A, s2.T n = A) := ⟨_, rfl⟩
            obtain ⟨A, hA⟩ := EN.out
            rw [hA] at LI CH BK
            clear hA EN
            obtain ⟨ai, ar, aq, ac⟩ := A
            simp only at LI CH BK
            cases ai with
            | true =>
              go_wp2_with fail
              refine LI.out.mono ?_
              rintro e w3 ⟨rfl, nd, hw3⟩
              have O3 : Hid (OD w3 og wh g rb mb wb 30 s2 W2) := by rw [hw3]; exact O2.out.heap rfl
              have B3 : Hid (Below w.heap.size w w3) := by rw [hw3]; exact ⟨B2.out.os, B2.out.tape, B2.out.output, B2.out.size, B2.out.block⟩
              have a3 := O3.out.c0
              clear hw3
              go_wp2_with fail
              refine (CH.out w3 O3.out.fs).mono ?_
              rintro e w' ⟨rfl, rfl⟩
              by_cases hcr : ac < ar
              · have hcr2 : ¬ ar ≤ ac := by omega
                obtain ⟨k1, k2, k3, k4⟩ := BK.out trivial hcr
                have TK : Hid (Calls Try.prog 19 #[.pointer (some ⟨g, 0, none⟩), .int .i64 n] w3 fun e w' => e = .returned (.tuple #[.int .u32 (xTak 30 s2 n), .int .i64 0]) ∧ FS w' g rb mb wb 30 (sTak 30 s2 n).2 ∧ Mods (Ft g mb wb) w3 w') := by have := takS O3.out.fs n; unfold TS at this; rw [k1] at this; exact this
                have TI : Hid (∀ w1, FS w1 g rb mb wb 30 (sTak 30 s2 n).2 → Calls Try.prog 18 #[.pointer (some ⟨g, 0, none⟩), .int .u32 (xTak 30 s2 n)] w1 fun e w' => e = .returned (.int .i64 1) ∧ w1 = w') := fun w1 k => by have := timesF k (xTak 30 s2 n) (by omega); rw [k3] at this; exact this
                have DR : Hid (∀ w1, FS w1 g rb mb wb 30 (sTak 30 s2 n).2 → Calls Try.prog 25 #[.pointer (some ⟨g, 0, none⟩), .int .i64 n, .int .u32 (xTak 30 s2 n)] w1 fun e w' => e = .returned (.int .i64 0) ∧ FS w' g rb mb wb 30 s2 ∧ Mods (Ft g mb wb) w1 w') := fun w1 k => by have := drpS k n (xTak 30 s2 n) (by omega); unfold CS at this; rw [k4] at this; exact this
                clear k1 k2 k3 k4 BK CH LI O2 B2 oc0
                generalize xTak 30 s2 n = xx at *
                generalize (sTak 30 s2 n).2 = s4 at *
                go_wp2_with fail
                refine TK.out.mono ?_
                rintro e w4 ⟨rfl, k4, m4⟩
                have O4 := Lib.hid (O3.out.turn k4 m4)
                have B4 := Lib.hid (Ft_below B3.out m4 B3.out.size HG.out.1 HG.out.2.1 HG.out.2.2.1)
                have a4 := O4.out.c0
                clear k4 m4
                go_wp2_with fail
                refine (TI.out w4 O4.out.fs).mono ?_
                rintro e w' ⟨rfl, rfl⟩
                go_wp2_with fail
                refine (DR.out w4 O4.out.fs).mono ?_
                rintro e w5 ⟨rfl, k5, m5⟩
                have O5 := Lib.hid (O4.out.turn k5 m5)
                have B5 := Lib.hid (Ft_below B4.out m5 B4.out.size HG.out.1 HG.out.2.1 HG.out.2.2.1)
                clear k5 m5
                go_wp2_with fail
                go_roundg (8 - n)
                case measure => have := HR2.out; omega
                case rel => exact ⟨n + 1, by omega, by omega, by go_num, O5.out, B5.out⟩
              · have hcr2 : ar ≤ ac := by omega
                clear hcr BK
                go_wp2_with fail
                go_roundg (8 - n)
                case measure => have := HR2.out; omega
                case rel => exact ⟨n + 1, by omega, by omega, by go_num, O3.out, B3.out⟩
            | false =>
              clear BK
              go_wp2_with fail
              refine LI.out.mono ?_
              rintro e w3 ⟨rfl, nd, hw3⟩
              have O3 : Hid (OD w3 og wh g rb mb wb 30 s2 W2) := by rw [hw3]; exact O2.out.heap rfl
              have B3 : Hid (Below w.heap.size w w3) := by rw [hw3]; exact ⟨B2.out.os, B2.out.tape, B2.out.output, B2.out.size, B2.out.block⟩
              clear hw3
              go_wp2_with fail
              go_roundg (8 - n)
              case measure => have := HR2.out; omega
              case rel => exact ⟨n + 1, by omega, by omega, by go_num, O3.out, B3.out⟩
          · have hn9 : n = 9 := by omega
            subst hn9
            clear hr2 HR2 hn hn1
            go_wp2_with fail
            go_roundg (min l 120 - (i + 1))
            case measure => have := HR.out; omega
            case rel => exact ⟨i + 1, s2, W2, by omega, by go_num, O2.out, B2.out⟩
      · go_wp2_with fail
        refine (aliveF _).mono ?_
        rintro e w2 ⟨rfl, hb2⟩
        have B2 : Hid (Below w.heap.size w w2) := B1.out.trans (hb2.mono B1.out.size)
        clear hb2
        go_wp2_with fail
        go_ret
        exact ⟨rfl, B2.out⟩
    · go_wp2_with fail
      refine (aliveF _).mono ?_
      rintro e w2 ⟨rfl, hb2⟩
      have B2 : Hid (Below w.heap.size w w2) := B1.out.trans (hb2.mono B1.out.size)
      clear hb2
      go_wp2_with fail
      go_ret
      exact ⟨rfl, B2.out⟩

set_option maxRecDepth 100000 in
theorem lifted (os : Os) (started : os.Started) (H : Type) (enc : TypeId × Value → H) :
    ReturnsInHanded {} Try.checked os 6 .any (Rows.extentReserveSpec.pre6 enc Try.prog Try.f6 Rows.extentReserveRow.domain false) (Rows.extentReserveSpec.post enc Try.prog Try.f6 false true false false) := by
  refine returnsInHanded_of_change (C := Try.checked) own started (by kernel_rfl) Try.func6
    (ChangeSpec.witness6 (enc := enc) (C := Try.checked) false ⟨#[], #[.slice none 0 0], []⟩ 8 (by kernel_rfl) (by kernel_rfl) (by kernel_rfl) (by kernel_rfl)) ?_
  intro W base args ds gs before hval0 hW hcnd _
  have hval : ∀ (j : Nat) t v, Try.f6.params[j]? = some t → args[j]? = some v → Value.okWide Try.prog W .any base t v := hval0
  have hW' := hW
  obtain ⟨p, q, hA0, hV, rfl, hfz, hnd⟩ := hW
  have hA : DataW.TrodAll enc Try.prog W 0 (fun _ => true) true Try.f6.params.toList args.toList ds p := hA0
  rw [Try.params6] at hA hval
  obtain ⟨v0, vs0, d0, ds0, p0, q0, hargs, rfl, rfl, h0, r0⟩ := trodAll_cons hA
  obtain ⟨rfl, rfl, rfl⟩ := trodAll_nil r0
  obtain rfl : args = #[v0] := by cases args; simp_all
  obtain ⟨rfl, rfl⟩ := trodVars_none hV
  obtain ⟨x0, l0, c0, rfl, s0⟩ := open_sv (hval 0 22 v0 rfl rfl) h0
  refine (walk x0 l0 c0 W s0).mono fun e W' ⟨he, hb⟩ => ?_
  subst he
  exact ⟨_, rfl, law_post hW' rfl rfl rfl (by kernel_rfl) hb⟩

/-- The statement. -/
theorem proved : Rows.ExtentReserveSaid :=
  OpenClaim.holds_of_wide 6 Try.f6 rfl rfl rfl rfl rfl rfl rfl ⟨rfl, rfl, rfl, rfl, rfl⟩ rfl rfl rfl rfl rfl (by kernel_rfl) Try.func6 (by kernel_rfl)
    (of_decide_eq_true (by kernel_rfl)) (by unfold Func.isWrapper; first | (rw [if_pos (by decide +kernel)]; kernel_rfl) | (rw [if_neg (by decide +kernel)]; exact ⟨rfl, rfl⟩))
    (fun os started H enc _ => lifted os started H enc)
#print axioms proved
end Go.Proofs.Ytjgkochbfjlinaa.extentReserve
