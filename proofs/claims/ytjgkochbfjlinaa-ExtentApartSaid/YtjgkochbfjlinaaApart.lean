/-
  For every number, slices of ops and slice of Booleans the law ExtentApart of package casematelaw17 returns true, and the arguments read afterwards as before: of a tenant whose reserve is its quota all answers, but which extents they are, hang on what was asked of it alone, whatever the others do. Condition: none.
-/
import Derived.Test.YtjgkochbfjlinaaY
import Derived.Deep.DeepCutAuto
namespace Go.Proofs.Ytjgkochbfjlinaa.extentApart
open Go.ChangeShapes Go.WideShapes Go.ChangeAt Go.RowKit
theorem start {w w1 w2 : World} {og wh g rb mb wb og' wh' g' rb' mb' wb' : Nat} {s s' : St} {W W' : Nat → Int} (o : OD w1 og wh g rb mb wb 40 s W) (hb : Below w.heap.size w w1) (h1 : w.heap.size ≤ g ∧ w.heap.size ≤ mb ∧ w.heap.size ≤ wb ∧ w.heap.size ≤ wh ∧ w.heap.size ≤ og ∧ w.heap.size ≤ rb)
    (o' : OD w2 og' wh' g' rb' mb' wb' 40 s' W') (hb' : Below w1.heap.size w1 w2) (h2 : w1.heap.size ≤ g' ∧ w1.heap.size ≤ mb' ∧ w1.heap.size ≤ wb' ∧ w1.heap.size ≤ wh' ∧ w1.heap.size ≤ og' ∧ w1.heap.size ≤ rb') :
    AS w.heap.size w2 w1.heap.size og wh g rb mb wb og' wh' g' rb' mb' wb' s s' W W' [] [] none none 0 0 := by
  obtain ⟨a1, a2, a3, a4, a5, a6⟩ := h1
  obtain ⟨b1, b2, b3, b4, b5, b6⟩ := h2
  exact ⟨o.below hb', o', .inl ⟨rfl, rfl, rfl⟩, .inl ⟨rfl, rfl, rfl⟩, (fun k ⟨_, h, _⟩ => by cases h), ⟨o.lt1, o.lt2, o.fs.lt, o.fs.row.lt, o.fs.row.map.lt, o.fs.row.wds.lt⟩, ⟨b5, b4, b1, b6, b2, b3⟩, ⟨a5, a4, a1, a6, a2, a3⟩, hb.size, Nat.le_trans hb.size hb'.size⟩
theorem chgPI {w : World} {g rb mb wb n : Nat} {s : St} {W : Nat → Int} {ms : List Nat} (h : PI n s W ms) (k : FS w g rb mb wb 40 s) : Calls Try.prog 17 #[.pointer (some ⟨g, 0, none⟩), .int .i64 1] w fun e w' => e = .returned (.int .i64 ms.length) ∧ w = w' := by
  have := chargeOf k 1
  have e : chg s.T 1 = ms.length := by unfold chg; rw [if_pos ⟨by decide, by decide⟩]; show (s.T 1).c = _; rw [h.t1]
  rw [e] at this
  exact this
set_option maxRecDepth 100000 in
set_option maxHeartbeats 8000000 in
theorem walk (mm : Nat) (hmm : mm ≤ 255) (xo : Option Addr) (l co : Nat) (xt : Option Addr) (lt ct : Nat) (xb : Option Addr) (lb cb : Nat) (w : World) (ho : SV w xo l) (ht : SV w xt lt) (hbl : BLs w xb lb) :
    Calls Try.prog 7 #[.int .u8 mm, .slice xo l co, .slice xt lt ct, .slice xb lb cb] w fun e w' => e = .returned (.bool true) ∧ Below w.heap.size w w' := by
  have X := Lib.hid ho
  have XT := Lib.hid ht
  have XB := Lib.hid hbl
  have hl : (l : Int) ≤ 9223372036854775807 := by have := ho.1; unfold maxLen at this; omega
  have hlt : (lt : Int) ≤ 9223372036854775807 := by have := ht.1; unfold maxLen at this; omega
  have hlb : (lb : Int) ≤ 9223372036854775807 := by have := hbl.1; unfold maxLen at this; omega
  obtain ⟨n, hn, hn15⟩ := u8_and15 mm (by omega)
  have BG := Lib.hid (beginC 40 (by omega) (by omega))
  have N15 := Lib.hid hn15
  have PS : Hid (PI n (sAdm 40 z0 1 n n).2 (fun _ => 0) []) := (PI.start hn15).2
  have AD : Hid (∀ w g rb mb wb, FS w g rb mb wb 40 z0 → Calls Try.prog 20 #[.pointer (some ⟨g, 0, none⟩), .int .i64 1, .int .i64 n, .int .i64 n] w fun e w' => e = .returned (.int .i64 0) ∧ FS w' g rb mb wb 40 (sAdm 40 z0 1 n n).2 ∧ Mods (Ft g mb wb) w w') := fun w g rb mb wb k => by
    have := admS k 1 n n; unfold CS at this; rw [(PI.start hn15).1] at this; exact this
  generalize (sAdm 40 z0 1 n n).2 = s1 at PS AD
  clear ho ht hbl hmm
  go_enter Try.func7, Try.ntmps7
  go_wp2_with fail
  refine (BG.out w).mono ?_
  rintro e w1 ⟨og, wh, g, rb, mb, wb, rfl, o1, h1, h2, h3, h4, h5, h6, hb⟩
  have O1 := Lib.hid o1
  have B1 := Lib.hid hb
  have G1 := Lib.hid (And.intro h1 (And.intro h2 (And.intro h3 (And.intro h4 (And.intro h5 h6)))))
  clear o1 hb h1 h2 h3 h4 h5 h6
  go_wp2_with fail
  refine (BG.out w1).mono ?_
  rintro e w2 ⟨og', wh', g', rb', mb', wb', rfl, o2, h1, h2, h3, h4, h5, h6, hb⟩
  have A2 := Lib.hid (start O1.out B1.out G1.out o2 hb ⟨h1, h2, h3, h4, h5, h6⟩)
  have B2 : Hid (Below w.heap.size w w2) := B1.out.trans (hb.mono B1.out.size)
  have a0 := A2.out.o.c0
  have b0 := A2.out.o'.c0
  clear o2 hb h1 h2 h3 h4 h5 h6 O1 B1 G1 BG
  generalize w1.heap.size = M at A2
  clear w1
  go_wp2_with fail
  refine (AD.out w2 g rb mb wb A2.out.o.fs).mono ?_
  rintro e w3 ⟨rfl, k3, m3⟩
  have m3' : Mods (Dt g mb wb wh) w2 w3 := m3.mono (fun b hb => .inl (Ft_Dt hb))
  have A3 := Lib.hid (A2.out.turn (A2.out.o.turn k3 m3) m3')
  have B3 := Lib.hid (A2.out.below1 B2.out m3')
  have c0 := A3.out.o'.c0
  clear k3 m3 m3' A2 B2 a0 b0
  go_wp2_with fail
  refine (AD.out w3 g' rb' mb' wb' A3.out.o'.fs).mono ?_
  rintro e w4 ⟨rfl, k4, m4⟩
  have m4' : Mods (Dt g' mb' wb' wh') w3 w4 := m4.mono (fun b hb => .inl (Ft_Dt hb))
  have A4 := Lib.hid (A3.out.turn' (A3.out.o'.turn k4 m4) m4')
  have B4 := Lib.hid (A3.out.below2 B3.out m4')
  clear k4 m4 m4' A3 B3 c0 AD
  go_wp2_with fail
  go_loopg [14, 15, 16, 17, 18, 19, 20, 21, 22, 23] (min l 80) (fun r v14 v15 v16 v17 _ _ _ _ _ _ wr => ∃ (i a : Nat) (s s' : St) (W W' : Nat → Int) (m m' : List Nat) (x x' : Option Addr) (c c' : Nat), r + i = min l 80 ∧ v14 = .slice x m.length c ∧ v15 = .slice x' m.length c' ∧ v16 = .int .i64 a ∧ v17 = .int .i64 i ∧ a ≤ i ∧ m.length ≤ i ∧ m'.length = m.length ∧
    AS w.heap.size wr M og wh g rb mb wb og' wh' g' rb' mb' wb' s s' W W' m m' x x' c c' ∧ PI n s W m ∧ PI n s' W' m' ∧ Below w.heap.size w wr)
  case atStart => exact ⟨0, 0, s1, s1, _, _, [], [], none, none, 0, 0, by omega, rfl, rfl, rfl, rfl, Nat.le_refl _, Nat.le_refl _, rfl, A4.out, PS.out, PS.out, B4.out⟩
  case round =>
    clear A4 B4 PS
    obtain ⟨i, a, s, s', W, W', m, m', x, x', c, c', hr, rfl, rfl, rfl, rfl, hai, hmi, hml, hA, hP, hP', hb⟩ := hrel
    have A1 := Lib.hid hA
    have P1 := Lib.hid hP
    have P1' := Lib.hid hP'
    have B1 := Lib.hid hb
    have HR := Lib.hid hr
    have AI := Lib.hid hai
    have MI := Lib.hid hmi
    have ML := Lib.hid hml
    clear hA hP hP' hb hr hai hmi hml
    by_cases hil : i < l
    · by_cases h80 : i < 80
      · have hd1 : decide ((i : Int) < 80) = true := decide_eq_true (by omega)
        have hd2 : decide ((i : Int) < l) = true := decide_eq_true (by omega)
        have ha80 : (a : Int) ≤ 80 := by have := AI.out; omega
        go_upto_region 11 with fail
        go_cut [86] (fun v86 wx => ∃ b : Bool, v86 = .bool b ∧ (b = true → a < lt) ∧ wr = wx)
        case first =>
          by_cases hib : i < lb
          · obtain ⟨gb, obb, bb, rfl, _, cb0⟩ := (XB.out.below B1.out).2 i hib
            cases bb with
            | false =>
              go_wp2_with fail
              go_meet
              exact ⟨_, rfl, (fun h => by cases h), rfl⟩
            | true =>
              by_cases hal : a < lt
              · have hal2 : (a : Int) < lt := by omega
                go_wp2_with fail
                go_meet
                exact ⟨_, rfl, (fun _ => hal), rfl⟩
              · have hal2 : ¬ (a : Int) < lt := by omega
                go_wp2_with fail
                go_meet
                exact ⟨_, rfl, (fun h => by simp at h), rfl⟩
          · go_wp2_with fail
            go_meet
            exact ⟨_, rfl, (fun h => by simp at h), rfl⟩
        case rest =>
        obtain ⟨b, rfl, hb, rfl⟩ := hcut
        have HB := Lib.hid hb
        clear hb
        go_upto_if 86 with fail
        go_cut [16] (fun v16 wx => ∃ (a2 : Nat) (s2 : St) (W2 : Nat → Int), v16 = .int .i64 a2 ∧ a2 ≤ i + 1 ∧ AS w.heap.size wx M og wh g rb mb wb og' wh' g' rb' mb' wb' s s2 W W2 m m' x x' c c' ∧ PI n s2 W2 m' ∧ Below w.heap.size w wx)
        case first =>
          cases b with
          | false =>
            go_wp2_with fail
            go_meet
            exact ⟨a, s', W', rfl, by have := AI.out; omega, A1.out, P1'.out, B1.out⟩
          | true =>
            have hal := HB.out rfl
            obtain ⟨kd, tt, aa, bb, y, gx, ox, rfl, hgx, hy, _, _, c0, c1, c2, c3, c4⟩ := (XT.out.below B1.out).2 a hal
            have hal2 : (a : Int) < lt := by omega
            have L5 : Hid (Below wr.heap.size wr (wr.alloc (.cells #[.int .i64 kd, .int .i64 tt, .int .i64 aa, .int .i64 bb, .int .u32 y] 34))) := (Below.refl _ _).alloc (Nat.le_refl _) _
            have Q5 : Hid (B5 (wr.alloc (.cells #[.int .i64 kd, .int .i64 tt, .int .i64 aa, .int .i64 bb, .int .u32 y] 34)) wr.heap.size kd tt aa bb y) := heap_alloc_new _ _
            have A5 := Lib.hid (A1.out.below L5.out)
            have B5' : Hid (Below w.heap.size w (wr.alloc (.cells #[.int .i64 kd, .int .i64 tt, .int .i64 aa, .int .i64 bb, .int .u32 y] 34))) := B1.out.trans (L5.out.mono B1.out.size)
            obtain ⟨d0, d1, d2, d3, d4⟩ := Q5.out.c
            have HY := Lib.hid hy
            clear hy hal
            by_cases ht1 : tt = 1
            · subst ht1
              go_wp2_with fail
              go_meet
              exact ⟨a + 1, s', W', by go_num, by have := AI.out; omega, A5.out, P1'.out, B5'.out⟩
            · have hb1 : (tt != 1) = true := by simp [ht1]
              have PO := Lib.hid (P1'.out.other A5.out.o'.fs kd tt aa bb y ht1)
              go_wp2_with fail
              refine (doC A5.out.o' kd tt aa bb y HY.out).mono ?_
              rintro e w6 ⟨rfl, o6, m6⟩
              have A6 := Lib.hid (A5.out.turn' o6 m6)
              have B6 := Lib.hid (A5.out.below2 B5'.out m6)
              clear o6 m6
              go_wp2_with fail
              go_meet
              exact ⟨a + 1, _, _, by go_num, by have := AI.out; omega, A6.out, PO.out, B6.out⟩
        case rest =>
        obtain ⟨a2, s2, W2, rfl, ha2, hA, hP', hb⟩ := hcut
        clear A1 P1' B1 HB
        have A1 := Lib.hid hA
        have P1' := Lib.hid hP'
        have B1 := Lib.hid hb
        have A2 := Lib.hid ha2
        clear hA hP' hb ha2
        obtain ⟨kd, tt, aa, bb, y, gx, ox, rfl, _, hy, _, _, c0, c1, c2, c3, c4⟩ := (X.out.below B1.out).2 i hil
        have HY := Lib.hid hy
        clear hy
        by_cases k3 : kd = 3
        · subst k3
          have T1 := Lib.hid (P1.out.take A1.out.o.fs)
          have T2 := Lib.hid (P1'.out.take A1.out.o'.fs)
          have D1 := Lib.hid (doC A1.out.o 3 1 0 0 0 (by omega))
          have D2 : Hid (∀ w1, OD w1 og' wh' g' rb' mb' wb' 40 s2 W2 → Calls Try.prog 27 #[.pointer (some ⟨og', 0, none⟩), .agg #[.int .i64 3, .int .i64 1, .int .i64 0, .int .i64 0, .int .u32 0]] w1 (DoP w1 og' wh' g' rb' mb' wb' 40 (doS 40 s2 W2 3 1 0 0 0))) := fun w1 o => doC o 3 1 0 0 0 (by omega)
          generalize doS 40 s W 3 1 0 0 0 = r1 at *
          generalize doS 40 s2 W2 3 1 0 0 0 = r2 at *
          obtain ⟨⟨q1, e1⟩, s3, W3⟩ := r1
          obtain ⟨⟨q2, e2⟩, s4, W4⟩ := r2
          simp only at T1 T2
          by_cases hf : n ≤ m.length
          · have hf' : n ≤ m'.length := by rw [ML.out]; exact hf
            obtain ⟨t1, t2, _⟩ := T1.out
            obtain ⟨t1', t2', _⟩ := T2.out
            rw [if_pos hf] at t1
            rw [if_pos hf'] at t1'
            subst t1 t1'
            have P3 := Lib.hid (t2 hf)
            have P3' := Lib.hid (t2' hf')
            clear t2 t2' T1 T2 hf hf'
            go_wp2_with fail
            refine D1.out.mono ?_
            rintro e w6 ⟨rfl, o6, m6⟩
            have A6 := Lib.hid (A1.out.turn o6 m6)
            have B6 := Lib.hid (A1.out.below1 B1.out m6)
            clear o6 m6
            go_wp2_with fail
            refine (D2.out w6 A6.out.o').mono ?_
            rintro e w7 ⟨rfl, o7, m7⟩
            have A7 := Lib.hid (A6.out.turn' o7 m7)
            have B7 := Lib.hid (A6.out.below2 B6.out m7)
            clear o7 m7 D1 D2 A6 B6
            go_wp2_with fail
            have C1 : Hid (∀ W, FS W g rb mb wb 40 s3 → Calls Try.prog 17 #[.pointer (some ⟨g, 0, none⟩), .int .i64 1] W fun e w' => e = .returned (.int .i64 (m.length : Nat)) ∧ W = w') := fun W k => by have := chgPI P3.out k; skip; exact this
            have C2 : Hid (∀ W, FS W g' rb' mb' wb' 40 s4 → Calls Try.prog 17 #[.pointer (some ⟨g', 0, none⟩), .int .i64 1] W fun e w' => e = .returned (.int .i64 (m.length : Nat)) ∧ W = w') := fun W k => by have := chgPI P3'.out k; rw [ML.out] at this; exact this
            have AZ := Lib.hid (A7.out.heap (w' := w7.drew) rfl rfl rfl rfl)
            have e0 := AZ.out.o.c0
            have e1 := AZ.out.o'.c0
            have e2 := A7.out.o.c0
            have e3 := A7.out.o'.c0
            go_region_held3 (fun W => W.cell? ⟨og, 0, none⟩ = some (.pointer (some ⟨g, 0, none⟩)) ∧ W.cell? ⟨og', 0, none⟩ = some (.pointer (some ⟨g', 0, none⟩))) (go_keep)
              (first
                | (go_at_call_of 17 (Value.pointer (some (Addr.mk g 0 none))); refine (C1.out _ AZ.out.o.fs).mono ?_; rintro e w' ⟨rfl, rfl⟩)
                | (go_at_call_of 17 (Value.pointer (some (Addr.mk g' 0 none))); refine (C2.out _ AZ.out.o'.fs).mono ?_; rintro e w' ⟨rfl, rfl⟩))
            go_wp2_with fail
            go_roundg (min l 80 - (i + 1))
            case measure => have := HR.out; omega
            case rel => exact ⟨i + 1, a2, _, _, _, _, m, m', x, x', c, c', by omega, rfl, rfl, rfl, by go_num, by have := A2.out; omega, by have := MI.out; omega, ML.out, AZ.out, P3.out, P3'.out, ⟨B7.out.os, B7.out.tape, B7.out.output, B7.out.size, B7.out.block⟩⟩
          · have hf' : ¬ n ≤ m'.length := by rw [ML.out]; exact hf
            obtain ⟨t1, _, t2⟩ := T1.out
            obtain ⟨t1', _, t2'⟩ := T2.out
            rw [if_neg hf] at t1
            rw [if_neg hf'] at t1'
            subst t1 t1'
            have P3 := Lib.hid (t2 hf)
            have P3' := Lib.hid (t2' hf')
            clear t2 t2' T1 T2 hf hf'
            go_wp2_with fail
            refine D1.out.mono ?_
            rintro e w6 ⟨rfl, o6, m6⟩
            have A6 := Lib.hid (A1.out.turn o6 m6)
            have B6 := Lib.hid (A1.out.below1 B1.out m6)
            clear o6 m6
            go_wp2_with fail
            refine (D2.out w6 A6.out.o').mono ?_
            rintro e w7 ⟨rfl, o7, m7⟩
            have A7 := Lib.hid (A6.out.turn' o7 m7)
            have B7 := Lib.hid (A6.out.below2 B6.out m7)
            clear o7 m7 D1 D2 A6 B6
            obtain ⟨x5, c5, w8, hr8, hl8, hm8, hn8⟩ := A7.out.ls.push q1 A7.out.sz (by have := MI.out; omega)
            have A8 := Lib.hid (A7.out.ls1 hl8 hm8 hn8)
            have B8 := Lib.hid (ob_below B7.out hm8 A7.out.sz A7.out.ls)
            obtain ⟨x6, c6, w9, hr9, hl9, hm9, hn9⟩ := A8.out.ls'.push q2 A8.out.sz (by rw [ML.out]; have := MI.out; omega)
            have A9 := Lib.hid (A8.out.ls2 hl9 hm9 hn9)
            have B9 := Lib.hid (ob_below B8.out hm9 A8.out.sz A8.out.ls')
            rw [ML.out] at hr9
            clear hl8 hm8 hn8 hl9 hm9 hn9
            have R8 := Lib.hid hr8
            have R9 := Lib.hid hr9
            clear hr8 hr9
            go_wp2_with (first | (at_builtin; refine wpList_appK 71 rfl (.tmp 123) (.tmp 125) rfl rfl rfl rfl R8.out ?_) | (at_builtin; refine wpList_appK 71 rfl (.tmp 127) (.tmp 129) rfl rfl rfl rfl R9.out ?_))
            have C1 : Hid (∀ W, FS W g rb mb wb 40 s3 → Calls Try.prog 17 #[.pointer (some ⟨g, 0, none⟩), .int .i64 1] W fun e w' => e = .returned (.int .i64 ((m ++ [q1]).length : Nat)) ∧ W = w') := fun W k => by have := chgPI P3.out k; skip; exact this
            have C2 : Hid (∀ W, FS W g' rb' mb' wb' 40 s4 → Calls Try.prog 17 #[.pointer (some ⟨g', 0, none⟩), .int .i64 1] W fun e w' => e = .returned (.int .i64 ((m ++ [q1]).length : Nat)) ∧ W = w') := fun W k => by have := chgPI P3'.out k; rw [show (m' ++ [q2]).length = (m ++ [q1]).length by have := ML.out; simp; omega] at this; exact this
            have AZ := Lib.hid (A9.out.heap (w' := w9.drew) rfl rfl rfl rfl)
            have e0 := AZ.out.o.c0
            have e1 := AZ.out.o'.c0
            have e2 := A9.out.o.c0
            have e3 := A9.out.o'.c0
            go_region_held3 (fun W => W.cell? ⟨og, 0, none⟩ = some (.pointer (some ⟨g, 0, none⟩)) ∧ W.cell? ⟨og', 0, none⟩ = some (.pointer (some ⟨g', 0, none⟩))) (go_keep)
              (first
                | (go_at_call_of 17 (Value.pointer (some (Addr.mk g 0 none))); refine (C1.out _ AZ.out.o.fs).mono ?_; rintro e w' ⟨rfl, rfl⟩)
                | (go_at_call_of 17 (Value.pointer (some (Addr.mk g' 0 none))); refine (C2.out _ AZ.out.o'.fs).mono ?_; rintro e w' ⟨rfl, rfl⟩))
            go_wp2_with fail
            go_roundg (min l 80 - (i + 1))
            case measure => have := HR.out; omega
            case rel => exact ⟨i + 1, a2, _, _, _, _, m ++ [q1], m' ++ [q2], x5, x6, c5, c6, by omega, by simp, by simp, rfl, by go_num, by have := A2.out; omega, by have := MI.out; simp; omega, by have := ML.out; simp; omega, AZ.out, P3.out, P3'.out, ⟨B9.out.os, B9.out.tape, B9.out.output, B9.out.size, B9.out.block⟩⟩
        · by_cases k6 : kd = 6
          · subst k6
            by_cases hm0 : m.length = 0
            · go_wp2_with fail
              go_roundg (min l 80 - (i + 1))
              case measure => have := HR.out; omega
              case rel => exact ⟨i + 1, a2, _, _, _, _, m, m', x, x', c, c', by omega, rfl, rfl, rfl, by go_num, by have := A2.out; omega, by have := MI.out; omega, ML.out, A1.out, P1.out, P1'.out, B1.out⟩
            · have hm0b : ((m.length : Int) == 0) = false := by simp; exact fun e => hm0 (by rw [e]; rfl)
              obtain ⟨k, hk⟩ : ∃ k, y % m.length = k := ⟨_, rfl⟩
              have hkl : k < m.length := by rw [← hk]; exact Nat.mod_lt _ (by omega)
              have hkl' : k < m'.length := by rw [ML.out]; exact hkl
              have hu : IntKind.i64.wrap (y : Int) = y := u32_i64 y HY.out
              have htm : Int.tmod (y : Int) (m.length : Int) = (k : Int) := by rw [← hk]; rfl
              have hkI : (k : Int) < m.length := by omega
              obtain ⟨t1, hd1, hp1⟩ := P1.out.drop k hkl
              obtain ⟨t2, hd2, hp2⟩ := P1'.out.drop k hkl'
              have P3 := Lib.hid hp1
              have P3' := Lib.hid hp2
              have em : m[k]? = some m[k] := List.getElem?_eq_getElem hkl
              have em' : m'[k]? = some m'[k] := List.getElem?_eq_getElem hkl'
              have hq1 := (P1.out.el _ (List.getElem_mem hkl)).1
              have hq2 := (P1'.out.el _ (List.getElem_mem hkl')).1
              have EM := Lib.hid em
              have EM' := Lib.hid em'
              have D1 : Hid (∀ W, FS W g rb mb wb 40 s → Calls Try.prog 25 #[.pointer (some ⟨g, 0, none⟩), .int .i64 1, .int .u32 (m[k] : Nat)] W fun e w' => e = .returned (.int .i64 0) ∧ FS w' g rb mb wb 40 t1 ∧ Mods (Ft g mb wb) W w') := fun W q => by
                have := drpS q 1 m[k] (by omega); unfold CS at this; rw [hd1] at this; exact this
              have D2 : Hid (∀ W, FS W g' rb' mb' wb' 40 s2 → Calls Try.prog 25 #[.pointer (some ⟨g', 0, none⟩), .int .i64 1, .int .u32 (m'[k] : Nat)] W fun e w' => e = .returned (.int .i64 0) ∧ FS w' g' rb' mb' wb' 40 t2 ∧ Mods (Ft g' mb' wb') W w') := fun W q => by
                have := drpS q 1 m'[k] (by omega); unfold CS at this; rw [hd2] at this; exact this
              obtain ⟨gm, ex, cm⟩ := A1.out.ls.cell k _ em
              obtain ⟨gm', ex', cm'⟩ := A1.out.ls'.cell k _ em'
              clear hd1 hd2 hp1 hp2 hq1 hq2 em em' hk
              subst ex ex'
              have HK := Lib.hid (And.intro hkl hkl')
              generalize m[k] = q1 at *
              generalize m'[k] = q2 at *
              clear hm0
              go_wp2_with fail
              have AZ := Lib.hid (A1.out.heap (w' := wc.drew) rfl rfl rfl rfl)
              have BZ : Hid (Below w.heap.size w wc.drew) := B1.out.drew
              have e0 := AZ.out.o.c0
              have e1 := AZ.out.o'.c0
              have e2 := A1.out.o.c0
              have e3 := A1.out.o'.c0
              have cz : wc.drew.cell? ⟨gm, k, none⟩ = some (.int .u32 (q1 : Nat)) := cm
              have cz' : wc.drew.cell? ⟨gm', k, none⟩ = some (.int .u32 (q2 : Nat)) := cm'
              go_region_held3 (fun W => W.cell? ⟨og, 0, none⟩ = some (.pointer (some ⟨g, 0, none⟩)) ∧ W.cell? ⟨og', 0, none⟩ = some (.pointer (some ⟨g', 0, none⟩)) ∧ W.cell? ⟨gm, k, none⟩ = some (.int .u32 (q1 : Nat)) ∧ W.cell? ⟨gm', k, none⟩ = some (.int .u32 (q2 : Nat))) (go_keep)
                (first
                  | (go_at_call_of 25 (Value.pointer (some (Addr.mk g 0 none))); refine (D1.out _ AZ.out.o.fs).mono ?_; rintro e w6 ⟨rfl, k6, m6⟩; have m6' : Mods (Dt g mb wb wh) wc.drew w6 := m6.mono (fun b hb => .inl (Ft_Dt hb)); have A6 := Lib.hid (AZ.out.turn (AZ.out.o.turn k6 m6) m6'); have B6 := Lib.hid (AZ.out.below1 BZ.out m6'); have f0 := A6.out.o.c0; have f1 := A6.out.o'.c0; obtain ⟨_, xx1, f2⟩ := A6.out.ls.cell k _ EM.out; obtain ⟨_, xx2, f3⟩ := A6.out.ls'.cell k _ EM'.out; injection xx1 with xx1; injection xx1 with xx1; injection xx2 with xx2; injection xx2 with xx2; subst xx1 xx2; clear k6 m6 m6')
                  | (go_at_call_of 25 (Value.pointer (some (Addr.mk g' 0 none))); refine (D2.out _ A6.out.o'.fs).mono ?_; rintro e w7 ⟨rfl, k7, m7⟩; have m7' : Mods (Dt g' mb' wb' wh') w6 w7 := m7.mono (fun b hb => .inl (Ft_Dt hb)); have A7 := Lib.hid (A6.out.turn' (A6.out.o'.turn k7 m7) m7'); have B7 := Lib.hid (A6.out.below2 B6.out m7'); have h0 := A7.out.o.c0; have h1 := A7.out.o'.c0; obtain ⟨_, xx1, h2⟩ := A7.out.ls.cell k _ EM.out; obtain ⟨_, xx2, h3⟩ := A7.out.ls'.cell k _ EM'.out; injection xx1 with xx1; injection xx1 with xx1; injection xx2 with xx2; injection xx2 with xx2; subst xx1 xx2; clear k7 m7 m7'))
              clear D1 D2 e0 e1 e2 e3 cz cz' cm cm' c0 c1 c2 c3 c4
              have hkc : k ≤ c := by have := A7.out.ls.cle.1; have := HK.out.1; omega
              have hkc' : k ≤ c' := by have := A7.out.ls'.cle.1; have := HK.out.2; omega
              have S1 : ∀ W, (Instr.slice 71 (.slice (some ⟨gm, 0, none⟩) m.length c) none (some (.int .i64 k)) (some (.int .i64 k))).run Try.prog W = .ok (.slice (some ⟨gm, 0, none⟩) k k) W := fun W => sl_hm gm _ c k hkc W
              have S2 : ∀ W, (Instr.slice 71 (.slice (some ⟨gm, 0, none⟩) m.length c) (some (.int .i64 ((k : Int) + 1))) none none).run Try.prog W = .ok (.slice (some (if c = k + 1 then ⟨gm, 0, none⟩ else ⟨gm, k + 1, none⟩)) (m.length - (k + 1)) (c - (k + 1))) W := fun W => sl_lo gm _ c (k + 1) (by have := HK.out.1; omega) W
              have S3 : ∀ W, (Instr.slice 71 (.slice (some ⟨gm', 0, none⟩) m.length c') none (some (.int .i64 k)) (some (.int .i64 k))).run Try.prog W = .ok (.slice (some ⟨gm', 0, none⟩) k k) W := fun W => sl_hm gm' _ c' k hkc' W
              have S4 : ∀ W, (Instr.slice 71 (.slice (some ⟨gm', 0, none⟩) m.length c') (some (.int .i64 ((k : Int) + 1))) none none).run Try.prog W = .ok (.slice (some (if c' = k + 1 then ⟨gm', 0, none⟩ else ⟨gm', k + 1, none⟩)) (m.length - (k + 1)) (c' - (k + 1))) W := fun W => sl_lo gm' _ c' (k + 1) (by have := HK.out.1; omega) W
              have A8 := Lib.hid (A7.out.heap (w' := w7.drew) rfl rfl rfl rfl)
              have B8 : Hid (Below w.heap.size w w7.drew) := B7.out.drew
              obtain ⟨a8, ha8⟩ : ∃ a8, a8 = (if c = k + 1 then (⟨gm, 0, none⟩ : Addr) else ⟨gm, k + 1, none⟩) := ⟨_, rfl⟩
              obtain ⟨x5, c5, w8, hr8, hl8, hb8, hn8⟩ := A8.out.ls.cut k HK.out.1 A8.out.sz (by have := MI.out; omega) a8 ha8
              have A9 := Lib.hid ((A8.out.ls1 hl8 (Mods.of_below hb8) hn8).heap (w' := w8.drew) rfl rfl rfl rfl)
              have B9 : Hid (Below w.heap.size w w8.drew) := (B8.out.trans (hb8.mono B8.out.size)).drew
              obtain ⟨a9, ha9⟩ : ∃ a9, a9 = (if c' = k + 1 then (⟨gm', 0, none⟩ : Addr) else ⟨gm', k + 1, none⟩) := ⟨_, rfl⟩
              obtain ⟨x6, c6, w9, hr9, hl9, hb9, hn9⟩ := A9.out.ls'.cut k HK.out.2 A9.out.sz (by rw [ML.out]; have := MI.out; omega) a9 ha9
              have A10 := Lib.hid (A9.out.ls2 hl9 (Mods.of_below hb9) hn9)
              have B10 : Hid (Below w.heap.size w w9) := B9.out.trans (hb9.mono B9.out.size)
              rw [ML.out] at hr9
              rw [← ha8] at S2
              rw [← ha9] at S4
              have R8 := Lib.hid hr8
              have R9 := Lib.hid hr9
              have hL1 : (m.eraseIdx k).length = m.length - 1 := List.length_eraseIdx_of_lt HK.out.1
              have hL2 : (m'.eraseIdx k).length = m.length - 1 := by rw [List.length_eraseIdx_of_lt HK.out.2, ML.out]
              have HL1 := Lib.hid hL1
              have HL2 := Lib.hid hL2
              clear hr8 hr9 hl8 hb8 hn8 hl9 hb9 hn9 ha8 ha9 hL1 hL2 hkc hkc' hu htm
              have hk80 : k ≤ 80 := by have := MI.out; have := HK.out.1; omega
              have hwk : IntKind.i64.wrap ((k : Int) + 1) = (k : Int) + 1 := IntWalk.i64_in _ (by omega)
              clear hk80
              go_wp2_with fail
              go_still_tail 8, (by kernel_rfl)
              change wpList _ _ _ _ _ w7.drew
              go_wp2_with (at_builtin; refine wpList_appK 71 rfl (.tmp 167) (.tmp 171) rfl rfl rfl rfl R8.out ?_)
              go_still_tail 8, (by kernel_rfl)
              change wpList _ _ _ _ _ w8.drew
              go_wp2_with (at_builtin; refine wpList_appK 71 rfl (.tmp 176) (.tmp 180) rfl rfl rfl rfl R9.out ?_)
              have C1 : Hid (∀ W, FS W g rb mb wb 40 t1 → Calls Try.prog 17 #[.pointer (some ⟨g, 0, none⟩), .int .i64 1] W fun e w' => e = .returned (.int .i64 (m.length - 1 : Nat)) ∧ W = w') := fun W k => by have := chgPI P3.out k; rw [HL1.out] at this; exact this
              have C2 : Hid (∀ W, FS W g' rb' mb' wb' 40 t2 → Calls Try.prog 17 #[.pointer (some ⟨g', 0, none⟩), .int .i64 1] W fun e w' => e = .returned (.int .i64 (m.length - 1 : Nat)) ∧ W = w') := fun W k => by have := chgPI P3'.out k; rw [HL2.out] at this; exact this
              have AZ2 := Lib.hid (A10.out.heap (w' := w9.drew) rfl rfl rfl rfl)
              have e0 := AZ2.out.o.c0
              have e1 := AZ2.out.o'.c0
              have e2 := A10.out.o.c0
              have e3 := A10.out.o'.c0
              go_region_held3 (fun W => W.cell? ⟨og, 0, none⟩ = some (.pointer (some ⟨g, 0, none⟩)) ∧ W.cell? ⟨og', 0, none⟩ = some (.pointer (some ⟨g', 0, none⟩))) (go_keep)
                (first
                  | (go_at_call_of 17 (Value.pointer (some (Addr.mk g 0 none))); refine (C1.out _ AZ2.out.o.fs).mono ?_; rintro e w' ⟨rfl, rfl⟩)
                  | (go_at_call_of 17 (Value.pointer (some (Addr.mk g' 0 none))); refine (C2.out _ AZ2.out.o'.fs).mono ?_; rintro e w' ⟨rfl, rfl⟩))
              go_wp2_with fail
              go_roundg (min l 80 - (i + 1))
              case measure => have := HR.out; omega
              case rel => exact ⟨i + 1, a2, _, _, _, _, m.eraseIdx k, m'.eraseIdx k, x5, x6, c5, c6, by omega, by rw [HL1.out], by rw [HL1.out], rfl, by go_num, by have := A2.out; omega, by have := MI.out; rw [HL1.out]; omega, by rw [HL1.out, HL2.out], AZ2.out, P3.out, P3'.out, ⟨B10.out.os, B10.out.tape, B10.out.output, B10.out.size, B10.out.block⟩⟩
          · have hk3 : (kd == 3) = false := by simp; exact k3
            have hk6 : (kd == 6) = false := by simp; exact k6
            go_wp2_with fail
            have C1 : Hid (∀ W, FS W g rb mb wb 40 s → Calls Try.prog 17 #[.pointer (some ⟨g, 0, none⟩), .int .i64 1] W fun e w' => e = .returned (.int .i64 (m.length : Nat)) ∧ W = w') := fun W k => by have := chgPI P1.out k; skip; exact this
            have C2 : Hid (∀ W, FS W g' rb' mb' wb' 40 s2 → Calls Try.prog 17 #[.pointer (some ⟨g', 0, none⟩), .int .i64 1] W fun e w' => e = .returned (.int .i64 (m.length : Nat)) ∧ W = w') := fun W k => by have := chgPI P1'.out k; rw [ML.out] at this; exact this
            have AZ := Lib.hid (A1.out.heap (w' := wc.drew) rfl rfl rfl rfl)
            have e0 := AZ.out.o.c0
            have e1 := AZ.out.o'.c0
            have e2 := A1.out.o.c0
            have e3 := A1.out.o'.c0
            go_region_held3 (fun W => W.cell? ⟨og, 0, none⟩ = some (.pointer (some ⟨g, 0, none⟩)) ∧ W.cell? ⟨og', 0, none⟩ = some (.pointer (some ⟨g', 0, none⟩))) (go_keep)
              (first
                | (go_at_call_of 17 (Value.pointer (some (Addr.mk g 0 none))); refine (C1.out _ AZ.out.o.fs).mono ?_; rintro e w' ⟨rfl, rfl⟩)
                | (go_at_call_of 17 (Value.pointer (some (Addr.mk g' 0 none))); refine (C2.out _ AZ.out.o'.fs).mono ?_; rintro e w' ⟨rfl, rfl⟩))
            go_wp2_with fail
            go_roundg (min l 80 - (i + 1))
            case measure => have := HR.out; omega
            case rel => exact ⟨i + 1, a2, _, _, _, _, m, m', x, x', c, c', by omega, rfl, rfl, rfl, by go_num, by have := A2.out; omega, by have := MI.out; omega, ML.out, AZ.out, P1.out, P1'.out, ⟨B1.out.os, B1.out.tape, B1.out.output, B1.out.size, B1.out.block⟩⟩
      · skip
        go_wp2_with fail
        refine (aliveF _).mono ?_
        rintro e w5 ⟨rfl, hb5⟩
        have B5 : Hid (Below w.heap.size w w5) := B1.out.trans (hb5.mono B1.out.size)
        clear hb5
        go_wp2_with fail
        go_ret
        exact ⟨rfl, B5.out⟩
    · skip
      go_wp2_with fail
      refine (aliveF _).mono ?_
      rintro e w5 ⟨rfl, hb5⟩
      have B5 : Hid (Below w.heap.size w w5) := B1.out.trans (hb5.mono B1.out.size)
      clear hb5
      go_wp2_with fail
      go_ret
      exact ⟨rfl, B5.out⟩

set_option maxRecDepth 100000 in
theorem lifted (os : Os) (started : os.Started) (H : Type) (enc : TypeId × Value → H) :
    ReturnsInHanded {} Try.checked os 7 .any (Rows.extentApartSpec.pre6 enc Try.prog Try.f7 Rows.extentApartRow.domain false) (Rows.extentApartSpec.post enc Try.prog Try.f7 false true false false) := by
  refine returnsInHanded_of_change (C := Try.checked) own started (by kernel_rfl) Try.func7
    (ChangeSpec.witness6 (enc := enc) (C := Try.checked) false ⟨#[], #[.int .u8 0, .slice none 0 0, .slice none 0 0, .slice none 0 0], []⟩ 8 (by kernel_rfl) (by kernel_rfl) (by kernel_rfl) (by kernel_rfl)) ?_
  intro W base args ds gs before hval0 hW hcnd _
  have hval : ∀ (j : Nat) t v, Try.f7.params[j]? = some t → args[j]? = some v → Value.okWide Try.prog W .any base t v := hval0
  have hW' := hW
  obtain ⟨p, q, hA0, hV, rfl, hfz, hnd⟩ := hW
  have hA : DataW.TrodAll enc Try.prog W 0 (fun _ => true) true Try.f7.params.toList args.toList ds p := hA0
  rw [Try.params7] at hA hval
  obtain ⟨v0, vs0, d0, ds0, p0, q0, hargs, rfl, rfl, h0, r0⟩ := trodAll_cons hA
  obtain ⟨v1, vs1, d1, ds1, p1, q1, rfl, rfl, rfl, h1, r1⟩ := trodAll_cons r0
  obtain ⟨v2, vs2, d2, ds2, p2, q2, rfl, rfl, rfl, h2, r2⟩ := trodAll_cons r1
  obtain ⟨v3, vs3, d3, ds3, p3, q3, rfl, rfl, rfl, h3, r3⟩ := trodAll_cons r2
  obtain ⟨rfl, rfl, rfl⟩ := trodAll_nil r3
  obtain rfl : args = #[v0, v1, v2, v3] := by cases args; simp_all
  obtain ⟨rfl, rfl⟩ := trodVars_none hV
  obtain ⟨a0, rfl, rfl, rfl, w0⟩ := open_int Try.underlying5 (hval 0 5 v0 rfl rfl) h0
  have b0 := bounds_u8 w0
  obtain ⟨m0, rfl⟩ : ∃ m : Nat, a0 = m := ⟨a0.toNat, by omega⟩
  obtain ⟨x1, l1, c1, rfl, s1⟩ := open_sv (hval 1 22 v1 rfl rfl) h1
  obtain ⟨x2, l2, c2, rfl, s2⟩ := open_sv (hval 2 22 v2 rfl rfl) h2
  obtain ⟨x3, l3, c3, rfl, s3⟩ := open_bl (hval 3 70 v3 rfl rfl) h3
  refine (walk m0 (by omega) x1 l1 c1 x2 l2 c2 x3 l3 c3 W s1 s2 s3).mono fun e W' ⟨he, hb⟩ => ?_
  subst he
  exact ⟨_, rfl, law_post hW' rfl rfl rfl (by kernel_rfl) hb⟩

/-- The statement. -/
theorem proved : Rows.ExtentApartSaid :=
  OpenClaim.holds_of_wide 7 Try.f7 rfl rfl rfl rfl rfl rfl rfl ⟨rfl, rfl, rfl, rfl, rfl⟩ rfl rfl rfl rfl rfl (by kernel_rfl) Try.func7 (by kernel_rfl)
    (of_decide_eq_true (by kernel_rfl)) (by unfold Func.isWrapper; first | (rw [if_pos (by decide +kernel)]; kernel_rfl) | (rw [if_neg (by decide +kernel)]; exact ⟨rfl, rfl⟩))
    (fun os started H enc _ => lifted os started H enc)
#print axioms proved
end Go.Proofs.Ytjgkochbfjlinaa.extentApart
