/-
  The walk of PoolStays. Condition: the two tables of package sha stand in memory; the play can be read.
-/
import Derived.Test.YtjdamlmoegippaaDoorPlZ
import Derived.Deep.DeepCutAuto
namespace Go.Proofs.YtjdamlmoegippaaDoor.pl
open Go.RowKit
theorem step_store_row {P : Program} {ops : Array Oper} {o : Oper} {a : Act} {w : World} {K : Act → World → Prop} {Q : Exit → Act → World → Prop} {E : Prop} (hgd : o.guard = none) (ty : TypeId) (x y : Operand) (ho : o.op = .store ty x y)
    (g : Nat) (cells : Array Value) (hx : a.eval x = .pointer (some ⟨g, 0, none⟩)) (hy : a.eval y = .agg cells) (t : TypeId) (old : Array Value) (hg : w.heap[g]? = some (.cells old t (0, 0))) (hi : (P.info? ty).map (·.size) = some cells.size)
    (hold : old.size = cells.size) (h1 : cells.all (·.oneCell') = true) (hK : K (a.put o.dst undef) (w.setRow g cells)) : if Region.wanted o (yielded ops a.tmps) = true then Oper.wp P o a w K Q else E := by
  have hw : Region.wanted o (yielded ops a.tmps) = true := by simp [Region.wanted, hgd]
  rw [if_pos hw]
  exact wp_store_row ty x y ho g cells hx hy t old hg hi hold h1 hK
def OKP (k a : Int) (E : List En) : Prop := k = 2 ∧ ∃ j : Nat, a = j ∧ ∃ n t y, E[j]? = some (n, t, y) ∧ t ≠ 0
theorem LP.addL3 {w wr w' : World} {A : PA} {lo : Nat} {vl vw vb v' : Value} {El Ew Eb F : List En} {i m : Nat} {D : DS} {s : ex.St} {S : Nat → Prop} {T : List (List Int)} (h : LP w wr A lo vl vw vb El Ew Eb F i m D s S T) (hA : A.B = w.heap.size) (n t y : Nat) (Cl : List Value) (hc : Cl = rl n (hl.sha (bI y))) (hr : dk.Rw w' 26 33 v' (El.length + 1) (flr El ++ Cl)) (hm : dk.Mods (fun k => vl.ownBlock = some k) wr w') (ho : v'.ownBlock = vl.ownBlock ∨ ∃ k, v'.ownBlock = some k ∧ wr.heap.size ≤ k) : LP w w' A lo v' vw vb (El ++ [(n, t, y)]) Ew Eb F i m D s S T := by
  rw [hc] at hr
  exact h.addL hA (n, t, y) hr hm ho
theorem LP.addW3 {w wr w' : World} {A : PA} {lo : Nat} {vl vw vb v' : Value} {El Ew Eb F : List En} {i m : Nat} {D : DS} {s : ex.St} {S : Nat → Prop} {T : List (List Int)} (h : LP w wr A lo vl vw vb El Ew Eb F i m D s S T) (hA : A.B = w.heap.size) (n t y : Nat) (t' : Int) (hc : t' = (t : Int)) (hr : dk.Rw w' 3 1 v' (Ew.length + 1) (flw Ew ++ [.int .i64 t'])) (hm : dk.Mods (fun k => vw.ownBlock = some k) wr w') (ho : v'.ownBlock = vw.ownBlock ∨ ∃ k, v'.ownBlock = some k ∧ wr.heap.size ≤ k) : LP w w' A lo vl v' vb El (Ew ++ [(n, t, y)]) Eb F i m D s S T := by
  rw [hc] at hr
  exact h.addW hA (n, t, y) hr hm ho
theorem LS.box {w wr : World} {A : PA} {lo : Nat} {vl vw vb : Value} {E F : List En} {i m g : Nat} {cs : Array Value} {D : DS} {s : ex.St} {S : Nat → Prop} {T : List (List Int)} (h : LS w wr A lo vl vw vb E F i m D s S T) (hr : wr.heap[g]? = some (.cells cs 26 (0, 0))) (hS : ¬ S g) (hB : A.B ≤ g) (hA : A.B = w.heap.size) (hv : vl.ownBlock ≠ some g) (C : Array Value) : LS w (wr.setRow g C) A lo vl vw vb E F i m D s S T := by
  have m := modsRow wr g C
  refine ⟨h.pw.rows26 (fun k => k = g) m (fun k hk => ⟨by rw [hk]; exact hB, by rw [hk]; exact hS, by rw [hk]; exact ⟨cs, hr⟩⟩), h.jn, ⟨h.ml.l.mods m (fun k hk e => hv (by rw [← e]; exact hk)), h.ml.wh.mods m (fun k hk e => ?_), h.ml.b.mods m (fun k hk e => ?_), h.ml.own⟩, h.n, h.d, h.t, dk.Mods.below h.b m h.b.size (fun k hk => by have : k = g := hk; omega)⟩
  · obtain ⟨c, hc⟩ := Rw.row h.ml.wh k hk
    exact row_ne hc hr (by decide) e
  · obtain ⟨c, hc⟩ := Rw.row h.ml.b k hk
    exact row_ne hc hr (by decide) e
set_option maxRecDepth 100000 in
set_option maxHeartbeats 8000000 in
theorem stays (x : Option Addr) (l c : Nat) (w : World) (hG : hl.Glob w) (hO : OS w x l) : Calls Tryd.prog 4 #[.slice x l c] w (AliveP w) := by
  have hlm : l ≤ 9223372036854775807 := by have := hO.1; unfold maxLen at this; omega
  have HO := Lib.hid hO
  have BG := Lib.hid (begin14 w hG)
  obtain ⟨Z, hZ⟩ : ∃ Z, Z = zr := ⟨_, rfl⟩
  have hz := z26
  have i0 := i26
  have o0 := o26
  have sz : zr.size = 33 := by kernel_rfl
  rw [← hZ] at hz i0 o0 sz
  have IZ := Lib.hid i0
  have OZ := Lib.hid o0
  have SZ := Lib.hid sz
  have HZE := Lib.hid hZ
  clear hG hO i0 o0 sz hZ
  go_enter Tryd.func4, Tryd.ntmps4
  go_wp2_with fail
  refine BG.out.mono ?_
  rintro e w1 ⟨A, S, rfl, hp1, hA, hb1⟩
  have AC := Lib.hid hA
  obtain ⟨lo, hlo⟩ : ∃ lo, lo = w1.heap.size := ⟨_, rfl⟩
  have GB : Hid (A.gb < lo ∧ A.B ≤ lo) := by
    show _ ∧ _
    rw [hlo]
    exact ⟨blk_lt hp1.pool.box, hp1.bb.2⟩
  have L1 : Hid (LS w w1 A lo (.slice none 0 0) (.slice none 0 0) (.slice none 0 0) [] [] 0 0 D0 (sB 3) S [] ∧ lo ≤ w1.heap.size) := by
    refine ⟨⟨hp1.bytes (fun _ => False) _ (dk.Mods.refl _ _) (fun _ h => h.elim) (fun k hk => by simp [Value.ownBlock] at hk), JN.nil _ _ _ _ _ (fun t => ?_), ML.nil _ _ _, Nat.le_refl _, ⟨rfl, rfl, Int.le_refl 0, Int.le_refl 0, Nat.le_refl 0⟩, Nat.le_refl _, hb1⟩, Nat.le_of_eq hlo⟩
    exact ((show ex.FD w1 A.gf A.rb A.mb A.wb A.ct (sB 3).f (sB 3).T from hp1.fd).inv.cq t).1
  clear hA hp1 hb1 BG hlo
  go_wp2_with fail
  go_loopg [6, 7, 8, 9, 10, 11, 12, 13, 14, 15] (min l 60) (fun r vl vw vb vi _ _ _ _ _ _ wr => ∃ (i : Nat) (E : List En) (D : DS) (s : ex.St) (S : Nat → Prop) (T : List (List Int)), r + i = min l 60 ∧ vi = .int .i64 i ∧ LS w wr A lo vl vw vb E E i (100 * i) D s S T ∧ lo ≤ wr.heap.size)
  case atStart => exact ⟨0, [], D0, sB 3, S, [], by omega, rfl, L1.out⟩
  case round =>
    clear L1
    obtain ⟨i, E, D, s, S, T, hr, rfl, hls, hlo⟩ := hrel
    have HR := Lib.hid hr
    have L := Lib.hid hls
    have LO := Lib.hid hlo
    clear hr hls hlo
    by_cases hlt : i < l
    · by_cases h50 : i < 60
      · obtain ⟨k', t', a, n', y, b, o, rfl, hbl, hy, ht, ha, g0, g1, g2, g3, g4⟩ := (HO.out.below L.out.b).2 i hlt
        have HY := Lib.hid hy
        have HT := Lib.hid ht
        have HA := Lib.hid ha
        clear hbl hy ht ha
        obtain ⟨vl, hvl⟩ : ∃ vl, vl = u6 := ⟨_, rfl⟩
        obtain ⟨vw, hvw⟩ : ∃ vw, vw = u7 := ⟨_, rfl⟩
        obtain ⟨vb, hvb⟩ : ∃ vb, vb = u8 := ⟨_, rfl⟩
        subst hvl hvw hvb
        obtain ⟨q, hq⟩ : ∃ q, q = wr.heap.size := ⟨_, rfl⟩
        obtain ⟨w2, hw2⟩ : ∃ w2, w2 = wr.alloc (.cells #[.int .i64 k', .int .i64 t', .int .i64 a, .int .i64 n', .int .u8 (y : Int)] 52) := ⟨_, rfl⟩
        have b2 : Below wr.heap.size wr w2 := by rw [hw2]; exact (Below.refl _ _).alloc (Nat.le_refl _) _
        have X2 : Hid (w2.heap[q]? = some (.cells #[.int .i64 k', .int .i64 t', .int .i64 a, .int .i64 n', .int .u8 (y : Int)] 52 (0, 0))) := by show _ = _; rw [hw2, hq]; exact heap_alloc_new wr _
        have L2 := Lib.hid (L.out.below b2)
        have LO2 : Hid (lo ≤ w2.heap.size) := Nat.le_trans LO.out b2.size
        have NSQ : Hid (¬ S q) := fun e => by have := L.out.pw.lg.own _ e; omega
        have LOQ : Hid (lo ≤ q) := by show _ ≤ _; rw [hq]; exact LO.out
        have HW2 := Lib.hid hw2
        have HQ := Lib.hid hq
        clear b2 hw2 hq L LO
        go_upto_region 11 with fail
        rw [← HW2.out, ← HQ.out]
        clear HW2 HQ g0 g1 g2 g3 g4
        have e0 : w2.cell? ⟨q, 0, none⟩ = some (.int .i64 k') := by rw [cell_row X2.out]; rfl
        go_upto_if 39 with fail
        clear e0
        go_cut [6, 7, 8, 11, 12] (fun v6 v7 v8 _ _ wx => ∃ (E : List En) (D : DS) (s : ex.St) (S : Nat → Prop) (T : List (List Int)), LS w wx A lo v6 v7 v8 E E (i + 1) (100 * i + 1) D s S T ∧ wx.heap[q]? = some (.cells #[.int .i64 k', .int .i64 t', .int .i64 a, .int .i64 n', .int .u8 (y : Int)] 52 (0, 0)) ∧ lo ≤ wx.heap.size ∧ ¬ S q)
        case first =>
          as_aux_lemma =>
            by_cases hk0 : k' = 0
            · have hkb : (k' == 0) = true := by simp [hk0]
              by_cases htk : (ex.sTak 20 s t').1 = 0
              · obtain ⟨C, hC⟩ : ∃ C, C = (rl (ex.fst s.f 20) (hl.sha (bI y))).toArray := ⟨_, rfl⟩
                have PT : Hid (∀ (W : World) (b4 : Nat), LS w W A lo vl vw vb E E i (100 * i) D s S T → dk.TX W (.slice (some ⟨b4, 0, none⟩) 512 512) (dk.tx y) → ¬ S b4 → Calls Tryd.prog 7 #[.pointer (some ⟨A.p, 0, none⟩), .int .i64 t', .slice (some ⟨b4, 0, none⟩) 512 512] W fun e w' => ∃ (k : Nat) (D' : DS) (s' : ex.St) (S' : Nat → Prop) (T' : List (List Int)), t' = (k : Int) ∧ 1 ≤ k ∧
                    e = .returned (.tuple #[.agg C, .int .i64 0]) ∧ LS w w' A lo vl vw vb E (E ++ [(ex.fst s.f 20, k, y)]) (i + 1) (100 * i + 1) D' s' S' T' ∧ (∀ q, S' q → S q ∨ W.heap.size ≤ q) ∧ dk.Mods (Oth A D S) W w') := fun W b4 hl hv hn => by
                  rw [hC]
                  exact hl.put AC.out t' b4 y hv HY.out hn htk (by omega) (by omega)
                have IC : Hid ((Tryd.prog.info? 26).map (·.size) = some C.size) := by show _ = _; rw [hC]; exact irl _ (hl.sha_len _ (bI_byt HY.out))
                have OC : Hid (C.all (·.oneCell') = true) := by show _ = _; rw [hC]; exact orl _ _
                have IZC : Hid (Z.size = C.size) := Option.some.inj (IZ.out.symm.trans IC.out)
                have HC := Lib.hid hC
                clear hC htk
                go_upto_region 12 with fail
                go_cut [11, 12] (fun v11 v12 wx => ∃ (g k5 : Nat) (D5 : DS) (s5 : ex.St) (S5 : Nat → Prop) (T5 : List (List Int)), v11 = .pointer (some ⟨g, 0, none⟩) ∧ v12 = .int .i64 0 ∧ t' = (k5 : Int) ∧ LS w wx A lo vl vw vb E (E ++ [(ex.fst s.f 20, k5, y)]) (i + 1) (100 * i + 1) D5 s5 S5 T5 ∧ wx.heap[q]? = some (.cells #[.int .i64 k', .int .i64 t', .int .i64 a, .int .i64 n', .int .u8 (y : Int)] 52 (0, 0)) ∧ wx.heap[g]? = some (.cells C 26 (0, 0)) ∧ vl.ownBlock ≠ some g ∧ ¬ S5 q)
                case first =>
                  as_aux_lemma =>
                    refine wp_region_held_drew (S := fun W => W.heap[q]? = some (.cells #[.int .i64 k', .int .i64 t', .int .i64 a, .int .i64 n', .int .u8 (y : Int)] 52 (0, 0))) (by kernel_rfl) (((Below.refl w2.heap.size w2).drew.block _ (blk_lt X2.out)).trans X2.out) (fun hS => ?_)
                    have qL := L2.out.below (Below.refl _ _).drew
                    generalize w2.drew = Wr12 at hS qL ⊢
                    have L := Lib.hid qL
                    clear qL L2 X2
                    refine' wpAnyH_take (i := 0) ?h1x0r ?hsx0r ?hfx0r ?hrx0r ?hQx0r (Or.inl ⟨?hwx0r, ?hyx0r⟩) hS ?restx0r
                    case h1x0r => (simp only [List.getElem?_toArray, List.getElem?_cons_zero]; rfl)
                    case hsx0r | hfx0r | hrx0r => kernel_rfl
                    case hQx0r => exact fun _ _ _ h => h
                    case hwx0r => rfl
                    case hyx0r =>
                      intro W hW
                      go_simp
                      try with_reducible rfl
                    simp only [Act.put, List.setIfInBounds_toArray, List.set_cons_succ, List.set_cons_zero]
                    refine' wpAnyH_take (i := 1) ?h1x1r ?hsx1r ?hfx1r ?hrx1r ?hQx1r (Or.inl ⟨?hwx1r, ?hyx1r⟩) hS ?restx1r
                    case h1x1r => (simp only [List.getElem?_toArray, List.getElem?_cons_succ, List.getElem?_cons_zero]; rfl)
                    case hsx1r | hfx1r | hrx1r => kernel_rfl
                    case hQx1r => exact fun _ _ _ h => h
                    case hwx1r => rfl
                    case hyx1r =>
                      intro W hW
                      go_simp
                      try with_reducible rfl
                    simp only [Act.put, List.setIfInBounds_toArray, List.set_cons_succ, List.set_cons_zero]
                    refine' wpAnyH_take (i := 3) ?h1x3r ?hsx3r ?hfx3r ?hrx3r ?hQx3r (Or.inl ⟨?hwx3r, ?hyx3r⟩) hS ?restx3r
                    case h1x3r => (simp only [List.getElem?_toArray, List.getElem?_cons_succ, List.getElem?_cons_zero]; rfl)
                    case hsx3r | hfx3r | hrx3r => kernel_rfl
                    case hQx3r => exact fun _ _ _ h => h
                    case hwx3r => rfl
                    case hyx3r =>
                      intro W hW
                      go_simp
                      try with_reducible rfl
                    simp only [Act.put, List.setIfInBounds_toArray, List.set_cons_succ, List.set_cons_zero]
                    refine' wpAnyH_take (i := 2) ?h1x2r ?hsx2r ?hfx2r ?hrx2r ?hQx2r (Or.inl ⟨?hwx2r, ?hyx2r⟩) hS ?restx2r
                    case h1x2r => (simp only [List.getElem?_toArray, List.getElem?_cons_succ, List.getElem?_cons_zero]; rfl)
                    case hsx2r | hfx2r | hrx2r => kernel_rfl
                    case hQx2r => exact fun _ _ _ h => h
                    case hwx2r => rfl
                    case hyx2r =>
                      intro W hW
                      have dd : W.cell? ⟨q, 1, none⟩ = some (.int .i64 t') := by rw [cell_row hW]; rfl
                      go_simp
                      try with_reducible rfl
                    simp only [Act.put, List.setIfInBounds_toArray, List.set_cons_succ, List.set_cons_zero]
                    refine' wpAnyH_take (i := 4) ?h1x4r ?hsx4r ?hfx4r ?hrx4r ?hQx4r (Or.inl ⟨?hwx4r, ?hyx4r⟩) hS ?restx4r
                    case h1x4r => (simp only [List.getElem?_toArray, List.getElem?_cons_succ, List.getElem?_cons_zero]; rfl)
                    case hsx4r | hfx4r | hrx4r => kernel_rfl
                    case hQx4r => exact fun _ _ _ h => h
                    case hwx4r => rfl
                    case hyx4r =>
                      intro W hW
                      have dd : W.cell? ⟨q, 4, none⟩ = some (.int .u8 (y : Int)) := by rw [cell_row hW]; rfl
                      go_simp
                      try with_reducible rfl
                    simp only [Act.put, List.setIfInBounds_toArray, List.set_cons_succ, List.set_cons_zero]
                    refine wpAnyH_ready (rs := [5, 10]) (by kernel_rfl) (by simp) ?_
                    refine' (AllReadyH.cons ?hoc5r (fun K hK => ?stc5r) (AllReadyH.cons ?hoc10r (fun K hK => ?stc10r) AllReadyH.nil))
                    case hoc5r => (simp only [List.getElem?_toArray, List.getElem?_cons_succ, List.getElem?_cons_zero]; rfl)
                    case hoc10r => (simp only [List.getElem?_toArray, List.getElem?_cons_succ, List.getElem?_cons_zero]; rfl)
                    case stc5r =>
                      go_simp
                      refine (fullX y Wr12).mono ?_
                      rintro e Wfx5 ⟨b4, rfl, hv4, hl4, hb4⟩
                      have qL := L.out.below hb4
                      have NS4 : Hid (¬ S b4) := fun e => by have := L.out.pw.lg.own _ e; omega
                      have qS := (hb4.block _ (blk_lt hS)).trans hS
                      have V := Lib.hid hv4
                      clear L hb4 hl4 hv4
                      have L := Lib.hid qL
                      clear qL
                      go_wp2_with fail
                      refine hK.out _ _ qS (fun hHeld => ?_)
                      clear hK K qS
                      try simp only [Act.put, List.setIfInBounds_toArray, List.set_cons_succ, List.set_cons_zero]
                      clear hS
                      have hS := hHeld
                      clear hHeld
                      refine wpAnyH_ready (rs := [6, 10]) (by kernel_rfl) (by simp) ?_
                      refine' (AllReadyH.cons ?hoc6rx5 (fun K hK => ?stc6rx5) (AllReadyH.cons ?hoc10rx5 (fun K hK => ?stc10rx5) AllReadyH.nil))
                      case hoc6rx5 => (simp only [List.getElem?_toArray, List.getElem?_cons_succ, List.getElem?_cons_zero]; rfl)
                      case hoc10rx5 => (simp only [List.getElem?_toArray, List.getElem?_cons_succ, List.getElem?_cons_zero]; rfl)
                      case stc6rx5 =>
                        go_simp
                        refine (PT.out Wfx5 b4 L.out V.out NS4.out).mono ?_
                        rintro e Wpx5x6 ⟨k5, D5, s5, S5, T5, hk5, h15, rfl, hl5, hs5, hm5⟩
                        have qS := (hm5.block _ (blk_lt hS) (L.out.pw.nOth52 hS NSQ.out)).trans hS
                        have K5 := Lib.hid (And.intro hk5 h15)
                        have NSQ5 : Hid (¬ S5 q) := fun e => by
                          rcases hs5 _ e with e | e
                          · exact NSQ.out e
                          · have := blk_lt hS; omega
                        have P := Lib.hid hl5
                        clear L V NS4 hl5 hm5 hs5 hk5 h15
                        go_wp2_with fail
                        refine hK.out _ _ qS (fun hHeld => ?_)
                        clear hK K qS
                        try simp only [Act.put, List.setIfInBounds_toArray, List.set_cons_succ, List.set_cons_zero]
                        clear hS
                        have hS := hHeld
                        clear hHeld
                        refine' wpAnyH_take (i := 7) ?h1x7rx5x6 ?hsx7rx5x6 ?hfx7rx5x6 ?hrx7rx5x6 ?hQx7rx5x6 (Or.inl ⟨?hwx7rx5x6, ?hyx7rx5x6⟩) hS ?restx7rx5x6
                        case h1x7rx5x6 => (simp only [List.getElem?_toArray, List.getElem?_cons_succ, List.getElem?_cons_zero]; rfl)
                        case hsx7rx5x6 | hfx7rx5x6 | hrx7rx5x6 => kernel_rfl
                        case hQx7rx5x6 => exact fun _ _ _ h => h
                        case hwx7rx5x6 => rfl
                        case hyx7rx5x6 =>
                          intro W hW
                          go_simp
                          try with_reducible rfl
                        simp only [Act.put, List.setIfInBounds_toArray, List.set_cons_succ, List.set_cons_zero]
                        refine' wpAnyH_take (i := 8) ?h1x8rx5x6 ?hsx8rx5x6 ?hfx8rx5x6 ?hrx8rx5x6 ?hQx8rx5x6 (Or.inl ⟨?hwx8rx5x6, ?hyx8rx5x6⟩) hS ?restx8rx5x6
                        case h1x8rx5x6 => (simp only [List.getElem?_toArray, List.getElem?_cons_succ, List.getElem?_cons_zero]; rfl)
                        case hsx8rx5x6 | hfx8rx5x6 | hrx8rx5x6 => kernel_rfl
                        case hQx8rx5x6 => exact fun _ _ _ h => h
                        case hwx8rx5x6 => rfl
                        case hyx8rx5x6 =>
                          intro W hW
                          go_simp
                          try with_reducible rfl
                        simp only [Act.put, List.setIfInBounds_toArray, List.set_cons_succ, List.set_cons_zero]
                        refine' wpAnyH_take (i := 9) ?h1x9rx5x6 ?hsx9rx5x6 ?hfx9rx5x6 ?hrx9rx5x6 ?hQx9rx5x6 (Or.inl ⟨?hwx9rx5x6, ?hyx9rx5x6⟩) hS ?restx9rx5x6
                        case h1x9rx5x6 => (simp only [List.getElem?_toArray, List.getElem?_cons_succ, List.getElem?_cons_zero]; rfl)
                        case hsx9rx5x6 | hfx9rx5x6 | hrx9rx5x6 => kernel_rfl
                        case hQx9rx5x6 => exact fun _ _ _ h => h
                        case hwx9rx5x6 => rfl
                        case hyx9rx5x6 =>
                          intro W hW
                          go_simp
                          try with_reducible rfl
                        simp only [Act.put, List.setIfInBounds_toArray, List.set_cons_succ, List.set_cons_zero]
                        refine wpAnyH_ready (rs := [10]) (by kernel_rfl) (by simp) ?_
                        refine' (AllReadyH.cons ?hoc10rx5x6 (fun K hK => ?stc10rx5x6) AllReadyH.nil)
                        case hoc10rx5x6 => (simp only [List.getElem?_toArray, List.getElem?_cons_succ, List.getElem?_cons_zero]; rfl)
                        go_simp
                        have hb : Below Wpx5x6.heap.size Wpx5x6 (Wpx5x6.alloc (.cells Z 26)) := (Below.refl _ _).alloc (Nat.le_refl _) _
                        have qS := (hb.block _ (blk_lt hS)).trans hS
                        have qP := P.out.below hb
                        have qR := heap_alloc_new Wpx5x6 (.cells Z 26)
                        have nr : ¬ S5 Wpx5x6.heap.size := fun e => by have := P.out.pw.lg.own _ e; omega
                        have nv : vl.ownBlock ≠ some Wpx5x6.heap.size := fun e => by have := P.out.ml.l.lt _ e; omega
                        have nb : A.B ≤ Wpx5x6.heap.size := P.out.pw.bb.2
                        refine hK.out _ _ qS (fun hHeld => ?_)
                        clear hK K qS
                        try simp only [Act.put, List.setIfInBounds_toArray, List.set_cons_succ, List.set_cons_zero]
                        clear hS
                        have hS := hHeld
                        clear hHeld
                        clear hb P
                        generalize Wpx5x6.alloc (.cells Z 26) = Wax5x6x10 at *
                        generalize Wpx5x6.heap.size = g at *
                        have P := Lib.hid qP
                        have R := Lib.hid qR
                        have NR5 := Lib.hid nr
                        have NV := Lib.hid nv
                        have NB := Lib.hid nb
                        clear qP qR nr nv nb
                        refine wpAnyH_ready (rs := [11]) (by kernel_rfl) (by simp) ?_
                        refine' (AllReadyH.cons ?hoc11rx5x6x10 (fun K hK => ?stc11rx5x6x10) AllReadyH.nil)
                        case hoc11rx5x6x10 => (simp only [List.getElem?_toArray, List.getElem?_cons_succ, List.getElem?_cons_zero]; rfl)
                        refine step_store_row rfl 26 (.tmp 11) (.tmp 48) rfl g C rfl rfl 26 _ R.out IC.out IZC.out OC.out ?_
                        have qP := P.out.box R.out NR5.out NB.out AC.out.2.2.2 NV.out C
                        have qR := setRow_heap _ g _ C _ _ R.out
                        have qS := (setRow_other Wax5x6x10 g q C (row_ne R.out hS (by decide)).symm).trans hS
                        refine hK.out _ _ qS (fun hHeld => ?_)
                        clear hK K qS
                        simp only [Act.put]
                        clear hS
                        have hS := hHeld
                        clear hHeld
                        clear P R
                        generalize Wax5x6x10.setRow g C = Wtx5x6x10x11 at *
                        have P := Lib.hid qP
                        have R := Lib.hid qR
                        clear qP qR
                        refine' wpAnyH_take (i := 12) ?h1x12rx5x6x10x11 ?hsx12rx5x6x10x11 ?hfx12rx5x6x10x11 ?hrx12rx5x6x10x11 ?hQx12rx5x6x10x11 (Or.inl ⟨?hwx12rx5x6x10x11, ?hyx12rx5x6x10x11⟩) hS ?restx12rx5x6x10x11
                        case h1x12rx5x6x10x11 => (simp only [List.getElem?_toArray, List.getElem?_cons_succ, List.getElem?_cons_zero]; rfl)
                        case hsx12rx5x6x10x11 | hfx12rx5x6x10x11 | hrx12rx5x6x10x11 => kernel_rfl
                        case hQx12rx5x6x10x11 => exact fun _ _ _ h => h
                        case hwx12rx5x6x10x11 => rfl
                        case hyx12rx5x6x10x11 =>
                          intro W hW
                          go_simp
                          try with_reducible rfl
                        simp only [Act.put, List.setIfInBounds_toArray, List.set_cons_succ, List.set_cons_zero]
                        refine wpAnyH_done (by kernel_rfl) ?_ _
                        go_wp2_with fail
                        go_meet
                        exact ⟨g, k5, D5, s5, S5, T5, rfl, rfl, K5.out.1, P.out, hS, R.out, NV.out, NSQ5.out⟩
                      case stc10rx5 =>
                        go_simp
                        have hb : Below Wfx5.heap.size Wfx5 (Wfx5.alloc (.cells Z 26)) := (Below.refl _ _).alloc (Nat.le_refl _) _
                        have qS := (hb.block _ (blk_lt hS)).trans hS
                        have qL := L.out.below hb
                        have qR := heap_alloc_new Wfx5 (.cells Z 26)
                        have nr : ¬ S Wfx5.heap.size := fun e => by have := L.out.pw.lg.own _ e; omega
                        have nv : vl.ownBlock ≠ some Wfx5.heap.size := fun e => by have := L.out.ml.l.lt _ e; omega
                        have nb : A.B ≤ Wfx5.heap.size := L.out.pw.bb.2
                        have qV := dk.TX.below V.out hb
                        refine hK.out _ _ qS (fun hHeld => ?_)
                        clear hK K qS
                        try simp only [Act.put, List.setIfInBounds_toArray, List.set_cons_succ, List.set_cons_zero]
                        clear hS
                        have hS := hHeld
                        clear hHeld
                        clear hb L V
                        generalize Wfx5.alloc (.cells Z 26) = Wax5x10 at *
                        generalize Wfx5.heap.size = g at *
                        have L := Lib.hid qL
                        have R := Lib.hid qR
                        have NR := Lib.hid nr
                        have NV := Lib.hid nv
                        have NB := Lib.hid nb
                        clear qL qR nr nv nb
                        have V := Lib.hid qV
                        clear qV
                        refine wpAnyH_ready (rs := [6]) (by kernel_rfl) (by simp) ?_
                        refine' (AllReadyH.cons ?hoc6rx5x10 (fun K hK => ?stc6rx5x10) AllReadyH.nil)
                        case hoc6rx5x10 => (simp only [List.getElem?_toArray, List.getElem?_cons_succ, List.getElem?_cons_zero]; rfl)
                        go_simp
                        refine (PT.out Wax5x10 b4 L.out V.out NS4.out).mono ?_
                        rintro e Wpx5x10x6 ⟨k5, D5, s5, S5, T5, hk5, h15, rfl, hl5, hs5, hm5⟩
                        have qS := (hm5.block _ (blk_lt hS) (L.out.pw.nOth52 hS NSQ.out)).trans hS
                        have qR := (hm5.block _ (blk_lt R.out) (L.out.pw.nOth R.out NR.out)).trans R.out
                        have NR5 : Hid (¬ S5 g) := fun e => by
                          rcases hs5 _ e with e | e
                          · exact NR.out e
                          · have := blk_lt R.out; omega
                        have K5 := Lib.hid (And.intro hk5 h15)
                        have NSQ5 : Hid (¬ S5 q) := fun e => by
                          rcases hs5 _ e with e | e
                          · exact NSQ.out e
                          · have := blk_lt hS; omega
                        have P := Lib.hid hl5
                        clear L V NS4 hl5 hm5 hs5 hk5 h15 R NR
                        have R := Lib.hid qR
                        clear qR
                        go_wp2_with fail
                        refine hK.out _ _ qS (fun hHeld => ?_)
                        clear hK K qS
                        try simp only [Act.put, List.setIfInBounds_toArray, List.set_cons_succ, List.set_cons_zero]
                        clear hS
                        have hS := hHeld
                        clear hHeld
                        refine' wpAnyH_take (i := 7) ?h1x7rx5x10x6 ?hsx7rx5x10x6 ?hfx7rx5x10x6 ?hrx7rx5x10x6 ?hQx7rx5x10x6 (Or.inl ⟨?hwx7rx5x10x6, ?hyx7rx5x10x6⟩) hS ?restx7rx5x10x6
                        case h1x7rx5x10x6 => (simp only [List.getElem?_toArray, List.getElem?_cons_succ, List.getElem?_cons_zero]; rfl)
                        case hsx7rx5x10x6 | hfx7rx5x10x6 | hrx7rx5x10x6 => kernel_rfl
                        case hQx7rx5x10x6 => exact fun _ _ _ h => h
                        case hwx7rx5x10x6 => rfl
                        case hyx7rx5x10x6 =>
                          intro W hW
                          go_simp
                          try with_reducible rfl
                        simp only [Act.put, List.setIfInBounds_toArray, List.set_cons_succ, List.set_cons_zero]
                        refine' wpAnyH_take (i := 8) ?h1x8rx5x10x6 ?hsx8rx5x10x6 ?hfx8rx5x10x6 ?hrx8rx5x10x6 ?hQx8rx5x10x6 (Or.inl ⟨?hwx8rx5x10x6, ?hyx8rx5x10x6⟩) hS ?restx8rx5x10x6
                        case h1x8rx5x10x6 => (simp only [List.getElem?_toArray, List.getElem?_cons_succ, List.getElem?_cons_zero]; rfl)
                        case hsx8rx5x10x6 | hfx8rx5x10x6 | hrx8rx5x10x6 => kernel_rfl
                        case hQx8rx5x10x6 => exact fun _ _ _ h => h
                        case hwx8rx5x10x6 => rfl
                        case hyx8rx5x10x6 =>
                          intro W hW
                          go_simp
                          try with_reducible rfl
                        simp only [Act.put, List.setIfInBounds_toArray, List.set_cons_succ, List.set_cons_zero]
                        refine' wpAnyH_take (i := 9) ?h1x9rx5x10x6 ?hsx9rx5x10x6 ?hfx9rx5x10x6 ?hrx9rx5x10x6 ?hQx9rx5x10x6 (Or.inl ⟨?hwx9rx5x10x6, ?hyx9rx5x10x6⟩) hS ?restx9rx5x10x6
                        case h1x9rx5x10x6 => (simp only [List.getElem?_toArray, List.getElem?_cons_succ, List.getElem?_cons_zero]; rfl)
                        case hsx9rx5x10x6 | hfx9rx5x10x6 | hrx9rx5x10x6 => kernel_rfl
                        case hQx9rx5x10x6 => exact fun _ _ _ h => h
                        case hwx9rx5x10x6 => rfl
                        case hyx9rx5x10x6 =>
                          intro W hW
                          go_simp
                          try with_reducible rfl
                        simp only [Act.put, List.setIfInBounds_toArray, List.set_cons_succ, List.set_cons_zero]
                        refine wpAnyH_ready (rs := [11]) (by kernel_rfl) (by simp) ?_
                        refine' (AllReadyH.cons ?hoc11rx5x10x6 (fun K hK => ?stc11rx5x10x6) AllReadyH.nil)
                        case hoc11rx5x10x6 => (simp only [List.getElem?_toArray, List.getElem?_cons_succ, List.getElem?_cons_zero]; rfl)
                        refine step_store_row rfl 26 (.tmp 11) (.tmp 48) rfl g C rfl rfl 26 _ R.out IC.out IZC.out OC.out ?_
                        have qP := P.out.box R.out NR5.out NB.out AC.out.2.2.2 NV.out C
                        have qR := setRow_heap _ g _ C _ _ R.out
                        have qS := (setRow_other Wpx5x10x6 g q C (row_ne R.out hS (by decide)).symm).trans hS
                        refine hK.out _ _ qS (fun hHeld => ?_)
                        clear hK K qS
                        simp only [Act.put]
                        clear hS
                        have hS := hHeld
                        clear hHeld
                        clear P R
                        generalize Wpx5x10x6.setRow g C = Wtx5x10x6x11 at *
                        have P := Lib.hid qP
                        have R := Lib.hid qR
                        clear qP qR
                        refine' wpAnyH_take (i := 12) ?h1x12rx5x10x6x11 ?hsx12rx5x10x6x11 ?hfx12rx5x10x6x11 ?hrx12rx5x10x6x11 ?hQx12rx5x10x6x11 (Or.inl ⟨?hwx12rx5x10x6x11, ?hyx12rx5x10x6x11⟩) hS ?restx12rx5x10x6x11
                        case h1x12rx5x10x6x11 => (simp only [List.getElem?_toArray, List.getElem?_cons_succ, List.getElem?_cons_zero]; rfl)
                        case hsx12rx5x10x6x11 | hfx12rx5x10x6x11 | hrx12rx5x10x6x11 => kernel_rfl
                        case hQx12rx5x10x6x11 => exact fun _ _ _ h => h
                        case hwx12rx5x10x6x11 => rfl
                        case hyx12rx5x10x6x11 =>
                          intro W hW
                          go_simp
                          try with_reducible rfl
                        simp only [Act.put, List.setIfInBounds_toArray, List.set_cons_succ, List.set_cons_zero]
                        refine wpAnyH_done (by kernel_rfl) ?_ _
                        go_wp2_with fail
                        go_meet
                        exact ⟨g, k5, D5, s5, S5, T5, rfl, rfl, K5.out.1, P.out, hS, R.out, NV.out, NSQ5.out⟩
                    case stc10r =>
                      go_simp
                      have hb : Below Wr12.heap.size Wr12 (Wr12.alloc (.cells Z 26)) := (Below.refl _ _).alloc (Nat.le_refl _) _
                      have qS := (hb.block _ (blk_lt hS)).trans hS
                      have qL := L.out.below hb
                      have qR := heap_alloc_new Wr12 (.cells Z 26)
                      have nr : ¬ S Wr12.heap.size := fun e => by have := L.out.pw.lg.own _ e; omega
                      have nv : vl.ownBlock ≠ some Wr12.heap.size := fun e => by have := L.out.ml.l.lt _ e; omega
                      have nb : A.B ≤ Wr12.heap.size := L.out.pw.bb.2
                      refine hK.out _ _ qS (fun hHeld => ?_)
                      clear hK K qS
                      try simp only [Act.put, List.setIfInBounds_toArray, List.set_cons_succ, List.set_cons_zero]
                      clear hS
                      have hS := hHeld
                      clear hHeld
                      clear hb L
                      generalize Wr12.alloc (.cells Z 26) = Wax10 at *
                      generalize Wr12.heap.size = g at *
                      have L := Lib.hid qL
                      have R := Lib.hid qR
                      have NR := Lib.hid nr
                      have NV := Lib.hid nv
                      have NB := Lib.hid nb
                      clear qL qR nr nv nb
                      refine wpAnyH_ready (rs := [5]) (by kernel_rfl) (by simp) ?_
                      refine' (AllReadyH.cons ?hoc5rx10 (fun K hK => ?stc5rx10) AllReadyH.nil)
                      case hoc5rx10 => (simp only [List.getElem?_toArray, List.getElem?_cons_succ, List.getElem?_cons_zero]; rfl)
                      go_simp
                      refine (fullX y Wax10).mono ?_
                      rintro e Wfx10x5 ⟨b4, rfl, hv4, hl4, hb4⟩
                      have qL := L.out.below hb4
                      have NS4 : Hid (¬ S b4) := fun e => by have := L.out.pw.lg.own _ e; omega
                      have qS := (hb4.block _ (blk_lt hS)).trans hS
                      have qR := (hb4.block _ (blk_lt R.out)).trans R.out
                      have V := Lib.hid hv4
                      clear L hb4 hl4 hv4 R
                      have L := Lib.hid qL
                      clear qL
                      have R := Lib.hid qR
                      clear qR
                      go_wp2_with fail
                      refine hK.out _ _ qS (fun hHeld => ?_)
                      clear hK K qS
                      try simp only [Act.put, List.setIfInBounds_toArray, List.set_cons_succ, List.set_cons_zero]
                      clear hS
                      have hS := hHeld
                      clear hHeld
                      refine wpAnyH_ready (rs := [6]) (by kernel_rfl) (by simp) ?_
                      refine' (AllReadyH.cons ?hoc6rx10x5 (fun K hK => ?stc6rx10x5) AllReadyH.nil)
                      case hoc6rx10x5 => (simp only [List.getElem?_toArray, List.getElem?_cons_succ, List.getElem?_cons_zero]; rfl)
                      go_simp
                      refine (PT.out Wfx10x5 b4 L.out V.out NS4.out).mono ?_
                      rintro e Wpx10x5x6 ⟨k5, D5, s5, S5, T5, hk5, h15, rfl, hl5, hs5, hm5⟩
                      have qS := (hm5.block _ (blk_lt hS) (L.out.pw.nOth52 hS NSQ.out)).trans hS
                      have qR := (hm5.block _ (blk_lt R.out) (L.out.pw.nOth R.out NR.out)).trans R.out
                      have NR5 : Hid (¬ S5 g) := fun e => by
                        rcases hs5 _ e with e | e
                        · exact NR.out e
                        · have := blk_lt R.out; omega
                      have K5 := Lib.hid (And.intro hk5 h15)
                      have NSQ5 : Hid (¬ S5 q) := fun e => by
                        rcases hs5 _ e with e | e
                        · exact NSQ.out e
                        · have := blk_lt hS; omega
                      have P := Lib.hid hl5
                      clear L V NS4 hl5 hm5 hs5 hk5 h15 R NR
                      have R := Lib.hid qR
                      clear qR
                      go_wp2_with fail
                      refine hK.out _ _ qS (fun hHeld => ?_)
                      clear hK K qS
                      try simp only [Act.put, List.setIfInBounds_toArray, List.set_cons_succ, List.set_cons_zero]
                      clear hS
                      have hS := hHeld
                      clear hHeld
                      refine' wpAnyH_take (i := 7) ?h1x7rx10x5x6 ?hsx7rx10x5x6 ?hfx7rx10x5x6 ?hrx7rx10x5x6 ?hQx7rx10x5x6 (Or.inl ⟨?hwx7rx10x5x6, ?hyx7rx10x5x6⟩) hS ?restx7rx10x5x6
                      case h1x7rx10x5x6 => (simp only [List.getElem?_toArray, List.getElem?_cons_succ, List.getElem?_cons_zero]; rfl)
                      case hsx7rx10x5x6 | hfx7rx10x5x6 | hrx7rx10x5x6 => kernel_rfl
                      case hQx7rx10x5x6 => exact fun _ _ _ h => h
                      case hwx7rx10x5x6 => rfl
                      case hyx7rx10x5x6 =>
                        intro W hW
                        go_simp
                        try with_reducible rfl
                      simp only [Act.put, List.setIfInBounds_toArray, List.set_cons_succ, List.set_cons_zero]
                      refine' wpAnyH_take (i := 8) ?h1x8rx10x5x6 ?hsx8rx10x5x6 ?hfx8rx10x5x6 ?hrx8rx10x5x6 ?hQx8rx10x5x6 (Or.inl ⟨?hwx8rx10x5x6, ?hyx8rx10x5x6⟩) hS ?restx8rx10x5x6
                      case h1x8rx10x5x6 => (simp only [List.getElem?_toArray, List.getElem?_cons_succ, List.getElem?_cons_zero]; rfl)
                      case hsx8rx10x5x6 | hfx8rx10x5x6 | hrx8rx10x5x6 => kernel_rfl
                      case hQx8rx10x5x6 => exact fun _ _ _ h => h
                      case hwx8rx10x5x6 => rfl
                      case hyx8rx10x5x6 =>
                        intro W hW
                        go_simp
                        try with_reducible rfl
                      simp only [Act.put, List.setIfInBounds_toArray, List.set_cons_succ, List.set_cons_zero]
                      refine' wpAnyH_take (i := 9) ?h1x9rx10x5x6 ?hsx9rx10x5x6 ?hfx9rx10x5x6 ?hrx9rx10x5x6 ?hQx9rx10x5x6 (Or.inl ⟨?hwx9rx10x5x6, ?hyx9rx10x5x6⟩) hS ?restx9rx10x5x6
                      case h1x9rx10x5x6 => (simp only [List.getElem?_toArray, List.getElem?_cons_succ, List.getElem?_cons_zero]; rfl)
                      case hsx9rx10x5x6 | hfx9rx10x5x6 | hrx9rx10x5x6 => kernel_rfl
                      case hQx9rx10x5x6 => exact fun _ _ _ h => h
                      case hwx9rx10x5x6 => rfl
                      case hyx9rx10x5x6 =>
                        intro W hW
                        go_simp
                        try with_reducible rfl
                      simp only [Act.put, List.setIfInBounds_toArray, List.set_cons_succ, List.set_cons_zero]
                      refine wpAnyH_ready (rs := [11]) (by kernel_rfl) (by simp) ?_
                      refine' (AllReadyH.cons ?hoc11rx10x5x6 (fun K hK => ?stc11rx10x5x6) AllReadyH.nil)
                      case hoc11rx10x5x6 => (simp only [List.getElem?_toArray, List.getElem?_cons_succ, List.getElem?_cons_zero]; rfl)
                      refine step_store_row rfl 26 (.tmp 11) (.tmp 48) rfl g C rfl rfl 26 _ R.out IC.out IZC.out OC.out ?_
                      have qP := P.out.box R.out NR5.out NB.out AC.out.2.2.2 NV.out C
                      have qR := setRow_heap _ g _ C _ _ R.out
                      have qS := (setRow_other Wpx10x5x6 g q C (row_ne R.out hS (by decide)).symm).trans hS
                      refine hK.out _ _ qS (fun hHeld => ?_)
                      clear hK K qS
                      simp only [Act.put]
                      clear hS
                      have hS := hHeld
                      clear hHeld
                      clear P R
                      generalize Wpx10x5x6.setRow g C = Wtx10x5x6x11 at *
                      have P := Lib.hid qP
                      have R := Lib.hid qR
                      clear qP qR
                      refine' wpAnyH_take (i := 12) ?h1x12rx10x5x6x11 ?hsx12rx10x5x6x11 ?hfx12rx10x5x6x11 ?hrx12rx10x5x6x11 ?hQx12rx10x5x6x11 (Or.inl ⟨?hwx12rx10x5x6x11, ?hyx12rx10x5x6x11⟩) hS ?restx12rx10x5x6x11
                      case h1x12rx10x5x6x11 => (simp only [List.getElem?_toArray, List.getElem?_cons_succ, List.getElem?_cons_zero]; rfl)
                      case hsx12rx10x5x6x11 | hfx12rx10x5x6x11 | hrx12rx10x5x6x11 => kernel_rfl
                      case hQx12rx10x5x6x11 => exact fun _ _ _ h => h
                      case hwx12rx10x5x6x11 => rfl
                      case hyx12rx10x5x6x11 =>
                        intro W hW
                        go_simp
                        try with_reducible rfl
                      simp only [Act.put, List.setIfInBounds_toArray, List.set_cons_succ, List.set_cons_zero]
                      refine wpAnyH_done (by kernel_rfl) ?_ _
                      go_wp2_with fail
                      go_meet
                      exact ⟨g, k5, D5, s5, S5, T5, rfl, rfl, K5.out.1, P.out, hS, R.out, NV.out, NSQ5.out⟩
                case rest =>
                  as_aux_lemma =>
                    clear L2 X2 PT IC OC IZC
                    obtain ⟨g, k5, D5, s5, S5, T5, rfl, rfl, hk5, hl5, hx5, hg5, hv5, hn5⟩ := hcut
                    obtain ⟨Cl, hCl⟩ : ∃ Cl, Cl = rl (ex.fst s.f 20) (hl.sha (bI y)) := ⟨_, rfl⟩
                    have hc := HC.out
                    rw [← hCl] at hc
                    clear HC
                    subst hc
                    have HCL := Lib.hid hCl
                    have K5 := Lib.hid hk5
                    have P := Lib.hid (hl5.part ⟨Nat.le_trans LOQ.out (Nat.le_of_lt (blk_lt hx5)), GB.out.2, GB.out.1⟩)
                    have X := Lib.hid hx5
                    have R := Lib.hid hg5
                    have NV := Lib.hid hv5
                    have NSQ5 := Lib.hid hn5
                    clear hCl hk5 hl5 hx5 hg5 hv5 hn5 NSQ
                    go_upto_region 14 with fail
                    have HL33 : Hid (Cl.length = 33) := by show _ = _; rw [HCL.out]; exact rl_len _ (hl.sha_len _ (bI_byt HY.out))
                    have HO33 : Hid (∀ u ∈ Cl, u.oneCell' = true) := fun u hu => by
                      have := orl (ex.fst s.f 20) (hl.sha (bI y))
                      rw [← HCL.out, Array.all_eq_true'] at this
                      exact this u (by simpa using hu)
                    have HI33 : Hid ((Tryd.prog.info? 26).map (·.size) = some Cl.toArray.size) := by show _ = _; rw [HCL.out]; exact irl _ (hl.sha_len _ (bI_byt HY.out))
                    have RNG14 : Hid (∀ W : World, W.heap[g]? = some (.cells Cl.toArray 26 (0, 0)) → W.rangeAt g 0 Cl) := fun W hh j v hj => by
                      rw [cell_row hh, Nat.zero_add]
                      simpa using hj
                    have HNE : Hid (E.length ≤ 60) := by
                      have := P.out.n
                      rw [List.length_append] at this
                      show _ ≤ _
                      have h : ([(ex.fst s.f 20, k5, y)] : List En).length = 1 := rfl
                      omega
                    have qX : wc.drew.heap[q]? = _ := ((Below.refl wc.heap.size wc).drew.block _ (blk_lt X.out)).trans X.out
                    have qR : wc.drew.heap[g]? = _ := ((Below.refl wc.heap.size wc).drew.block _ (blk_lt R.out)).trans R.out
                    refine wp_region_held_drew (S := fun W => W.heap[q]? = some (.cells #[.int .i64 k', .int .i64 t', .int .i64 a, .int .i64 n', .int .u8 (y : Int)] 52 (0, 0)) ∧ W.heap[g]? = some (.cells Cl.toArray 26 (0, 0))) (by kernel_rfl) ⟨qX, qR⟩ (fun hS => ?_)
                    have qP := P.out.below (Below.refl _ _).drew
                    clear qX qR
                    generalize wc.drew = Wr14 at hS qP ⊢
                    have P := Lib.hid qP
                    clear qP X R
                    refine' wpAnyH_take (i := 0) ?h1x0s ?hsx0s ?hfx0s ?hrx0s ?hQx0s (Or.inl ⟨?hwx0s, ?hyx0s⟩) hS ?restx0s
                    case h1x0s => (simp only [List.getElem?_toArray, List.getElem?_cons_zero]; rfl)
                    case hsx0s | hfx0s | hrx0s => kernel_rfl
                    case hQx0s => exact fun _ _ _ h => h
                    case hwx0s => rfl
                    case hyx0s =>
                      intro W hW
                      go_simp
                      try with_reducible rfl
                    simp only [Act.put, List.setIfInBounds_toArray, List.set_cons_succ, List.set_cons_zero]
                    refine' wpAnyH_take (i := 1) ?h1x1s ?hsx1s ?hfx1s ?hrx1s ?hQx1s (yieldsIf_load_at ?hwx1s 26 (.tmp 11) ?hopx1s g 0 rfl Cl.toArray _ (fun W hW => RNG14.out W hW.2) Tryd.underlying26 rfl ?hix1s) hS ?restx1s
                    case h1x1s => (simp only [List.getElem?_toArray, List.getElem?_cons_succ, List.getElem?_cons_zero]; rfl)
                    case hopx1s => rfl
                    case hsx1s | hfx1s | hrx1s => kernel_rfl
                    case hQx1s => exact fun _ _ _ h => h
                    case hwx1s => rfl
                    case hix1s => exact HI33.out
                    simp only [Act.put, List.setIfInBounds_toArray, List.set_cons_succ, List.set_cons_zero]
                    refine' wpAnyH_take (i := 4) ?h1x4s ?hsx4s ?hfx4s ?hrx4s ?hQx4s (Or.inl ⟨?hwx4s, ?hyx4s⟩) hS ?restx4s
                    case h1x4s => (simp only [List.getElem?_toArray, List.getElem?_cons_succ, List.getElem?_cons_zero]; rfl)
                    case hsx4s | hfx4s | hrx4s => kernel_rfl
                    case hQx4s => exact fun _ _ _ h => h
                    case hwx4s => rfl
                    case hyx4s =>
                      intro W hW
                      go_simp
                      try with_reducible rfl
                    simp only [Act.put, List.setIfInBounds_toArray, List.set_cons_succ, List.set_cons_zero]
                    refine' wpAnyH_take (i := 5) ?h1x5s ?hsx5s ?hfx5s ?hrx5s ?hQx5s (Or.inl ⟨?hwx5s, ?hyx5s⟩) hS ?restx5s
                    case h1x5s => (simp only [List.getElem?_toArray, List.getElem?_cons_succ, List.getElem?_cons_zero]; rfl)
                    case hsx5s | hfx5s | hrx5s => kernel_rfl
                    case hQx5s => exact fun _ _ _ h => h
                    case hwx5s => rfl
                    case hyx5s =>
                      intro W hW
                      go_simp
                      try with_reducible rfl
                    simp only [Act.put, List.setIfInBounds_toArray, List.set_cons_succ, List.set_cons_zero]
                    refine' wpAnyH_take (i := 9) ?h1x9s ?hsx9s ?hfx9s ?hrx9s ?hQx9s (Or.inl ⟨?hwx9s, ?hyx9s⟩) hS ?restx9s
                    case h1x9s => (simp only [List.getElem?_toArray, List.getElem?_cons_succ, List.getElem?_cons_zero]; rfl)
                    case hsx9s | hfx9s | hrx9s => kernel_rfl
                    case hQx9s => exact fun _ _ _ h => h
                    case hwx9s => rfl
                    case hyx9s =>
                      intro W hW
                      go_simp
                      try with_reducible rfl
                    simp only [Act.put, List.setIfInBounds_toArray, List.set_cons_succ, List.set_cons_zero]
                    refine' wpAnyH_take (i := 10) ?h1x10s ?hsx10s ?hfx10s ?hrx10s ?hQx10s (Or.inl ⟨?hwx10s, ?hyx10s⟩) hS ?restx10s
                    case h1x10s => (simp only [List.getElem?_toArray, List.getElem?_cons_succ, List.getElem?_cons_zero]; rfl)
                    case hsx10s | hfx10s | hrx10s => kernel_rfl
                    case hQx10s => exact fun _ _ _ h => h
                    case hwx10s => rfl
                    case hyx10s =>
                      intro W hW
                      go_simp
                      try with_reducible rfl
                    simp only [Act.put, List.setIfInBounds_toArray, List.set_cons_succ, List.set_cons_zero]
                    refine' wpAnyH_take (i := 6) ?h1x6s ?hsx6s ?hfx6s ?hrx6s ?hQx6s (Or.inl ⟨?hwx6s, ?hyx6s⟩) hS ?restx6s
                    case h1x6s => (simp only [List.getElem?_toArray, List.getElem?_cons_succ, List.getElem?_cons_zero]; rfl)
                    case hsx6s | hfx6s | hrx6s => kernel_rfl
                    case hQx6s => exact fun _ _ _ h => h
                    case hwx6s => rfl
                    case hyx6s =>
                      intro W hW
                      have dd : W.cell? ⟨q, 1, none⟩ = some (.int .i64 t') := by rw [cell_row hW.1]; rfl
                      go_simp
                      try with_reducible rfl
                    simp only [Act.put, List.setIfInBounds_toArray, List.set_cons_succ, List.set_cons_zero]
                    refine' wpAnyH_take (i := 11) ?h1x11s ?hsx11s ?hfx11s ?hrx11s ?hQx11s (Or.inl ⟨?hwx11s, ?hyx11s⟩) hS ?restx11s
                    case h1x11s => (simp only [List.getElem?_toArray, List.getElem?_cons_succ, List.getElem?_cons_zero]; rfl)
                    case hsx11s | hfx11s | hrx11s => kernel_rfl
                    case hQx11s => exact fun _ _ _ h => h
                    case hwx11s => rfl
                    case hyx11s =>
                      intro W hW
                      have dd : W.cell? ⟨q, 4, none⟩ = some (.int .u8 (y : Int)) := by rw [cell_row hW.1]; rfl
                      go_simp
                      try with_reducible rfl
                    simp only [Act.put, List.setIfInBounds_toArray, List.set_cons_succ, List.set_cons_zero]
                    refine wpAnyH_ready (rs := [2, 7, 12]) (by kernel_rfl) (by simp) ?_
                    refine' (AllReadyH.cons ?hoc2s (fun K hK => ?stc2s) (AllReadyH.cons ?hoc7s (fun K hK => ?stc7s) (AllReadyH.cons ?hoc12s (fun K hK => ?stc12s) AllReadyH.nil)))
                    case hoc2s => (simp only [List.getElem?_toArray, List.getElem?_cons_succ, List.getElem?_cons_zero]; rfl)
                    case hoc7s => (simp only [List.getElem?_toArray, List.getElem?_cons_succ, List.getElem?_cons_zero]; rfl)
                    case hoc12s => (simp only [List.getElem?_toArray, List.getElem?_cons_succ, List.getElem?_cons_zero]; rfl)
                    case stc2s =>
                      have hb : Below Wr14.heap.size Wr14 (Wr14.alloc (.cells Cl.toArray 26)) := (Below.refl _ _).alloc (Nat.le_refl _) _
                      have qS := And.intro ((hb.block _ (blk_lt hS.1)).trans hS.1) ((hb.block _ (blk_lt hS.2)).trans hS.2)
                      have qP := P.out.below hb
                      have qC2 := heap_alloc_new Wr14 (.cells Cl.toArray 26)
                      have nv : vl.ownBlock ≠ some Wr14.heap.size := fun e => by have := P.out.l.lt _ e; omega
                      refine step_bs1 rfl 49 1 (.tmp 53) rfl rfl (by have := bs49 (ex.fst s.f 20) (hl.sha (bI y)) (hl.sha_len _ (bI_byt HY.out)) Wr14; rw [← HCL.out] at this; exact this) ?_
                      refine hK.out _ _ qS (fun hHeld => ?_)
                      clear hK K qS
                      try simp only [Act.put, List.setIfInBounds_toArray, List.set_cons_succ, List.set_cons_zero]
                      clear hS
                      have hS := hHeld
                      clear hHeld
                      clear hb P 
                      generalize Wr14.alloc (.cells Cl.toArray 26) = Wbx2 at *
                      generalize Wr14.heap.size = g2 at *
                      have P := Lib.hid qP
                      have C2 := Lib.hid qC2
                      clear qP qC2
                      refine wpAnyH_ready (rs := [3, 7, 12]) (by kernel_rfl) (by simp) ?_
                      refine' (AllReadyH.cons ?hoc3sx2 (fun K hK => ?stc3sx2) (AllReadyH.cons ?hoc7sx2 (fun K hK => ?stc7sx2) (AllReadyH.cons ?hoc12sx2 (fun K hK => ?stc12sx2) AllReadyH.nil)))
                      case hoc3sx2 => (simp only [List.getElem?_toArray, List.getElem?_cons_succ, List.getElem?_cons_zero]; rfl)
                      case hoc7sx2 => (simp only [List.getElem?_toArray, List.getElem?_cons_succ, List.getElem?_cons_zero]; rfl)
                      case hoc12sx2 => (simp only [List.getElem?_toArray, List.getElem?_cons_succ, List.getElem?_cons_zero]; rfl)
                      case stc3sx2 =>
                        obtain ⟨v3, Wqx2x3, r1, s1, m1, o1⟩ := push26 P.out.l g2 Cl HL33.out HO33.out C2.out (by have := HNE.out; omega)
                        have qP := P.out.addL3 AC.out.2.2.2 (ex.fst s.f 20) k5 y Cl HCL.out s1 m1 o1
                        have qS := And.intro ((m1.block _ (blk_lt hS.1) (P.out.l.ty hS.1 (by decide))).trans hS.1) ((m1.block _ (blk_lt hS.2) NV.out).trans hS.2)
                        refine dk.step_app_run rfl (.tmp 52) (.tmp 54) 49 rfl rfl rfl rfl r1 ?_
                        refine hK.out _ _ qS (fun hHeld => ?_)
                        clear hK K qS
                        try simp only [Act.put, List.setIfInBounds_toArray, List.set_cons_succ, List.set_cons_zero]
                        clear hS
                        have hS := hHeld
                        clear hHeld
                        clear P C2 r1 s1 m1 o1
                        have P := Lib.hid qP
                        clear qP 
                        refine wpAnyH_ready (rs := [7, 12]) (by kernel_rfl) (by simp) ?_
                        refine' (AllReadyH.cons ?hoc7sx2x3 (fun K hK => ?stc7sx2x3) (AllReadyH.cons ?hoc12sx2x3 (fun K hK => ?stc12sx2x3) AllReadyH.nil))
                        case hoc7sx2x3 => (simp only [List.getElem?_toArray, List.getElem?_cons_succ, List.getElem?_cons_zero]; rfl)
                        case hoc12sx2x3 => (simp only [List.getElem?_toArray, List.getElem?_cons_succ, List.getElem?_cons_zero]; rfl)
                        case stc7sx2x3 =>
                          have hb : Below Wqx2x3.heap.size Wqx2x3 (Wqx2x3.alloc (.cells #[.int .i64 t'] 3)) := (Below.refl _ _).alloc (Nat.le_refl _) _
                          have qS := And.intro ((hb.block _ (blk_lt hS.1)).trans hS.1) ((hb.block _ (blk_lt hS.2)).trans hS.2)
                          have qP := P.out.below hb
                          have qC7 := heap_alloc_new Wqx2x3 (.cells #[.int .i64 t'] 3)
                          refine step_bs1 rfl 50 1 (.tmp 58) rfl rfl (bs50 t' Wqx2x3) ?_
                          refine hK.out _ _ qS (fun hHeld => ?_)
                          clear hK K qS
                          try simp only [Act.put, List.setIfInBounds_toArray, List.set_cons_succ, List.set_cons_zero]
                          clear hS
                          have hS := hHeld
                          clear hHeld
                          clear hb P 
                          generalize Wqx2x3.alloc (.cells #[.int .i64 t'] 3) = Wbx2x3x7 at *
                          generalize Wqx2x3.heap.size = g7 at *
                          have P := Lib.hid qP
                          have C7 := Lib.hid qC7
                          clear qP qC7
                          refine wpAnyH_ready (rs := [8, 12]) (by kernel_rfl) (by simp) ?_
                          refine' (AllReadyH.cons ?hoc8sx2x3x7 (fun K hK => ?stc8sx2x3x7) (AllReadyH.cons ?hoc12sx2x3x7 (fun K hK => ?stc12sx2x3x7) AllReadyH.nil))
                          case hoc8sx2x3x7 => (simp only [List.getElem?_toArray, List.getElem?_cons_succ, List.getElem?_cons_zero]; rfl)
                          case hoc12sx2x3x7 => (simp only [List.getElem?_toArray, List.getElem?_cons_succ, List.getElem?_cons_zero]; rfl)
                          case stc8sx2x3x7 =>
                            obtain ⟨v8, Wqx2x3x7x8, r1, s1, m1, o1⟩ := push3 P.out.wh g7 t' C7.out (by have := HNE.out; omega)
                            have qP := P.out.addW3 AC.out.2.2.2 (ex.fst s.f 20) k5 y t' K5.out s1 m1 o1
                            have qS := And.intro ((m1.block _ (blk_lt hS.1) (P.out.wh.ty hS.1 (by decide))).trans hS.1) ((m1.block _ (blk_lt hS.2) (P.out.wh.ty hS.2 (by decide))).trans hS.2)
                            refine dk.step_app_run rfl (.tmp 56) (.tmp 59) 50 rfl rfl rfl rfl r1 ?_
                            refine hK.out _ _ qS (fun hHeld => ?_)
                            clear hK K qS
                            try simp only [Act.put, List.setIfInBounds_toArray, List.set_cons_succ, List.set_cons_zero]
                            clear hS
                            have hS := hHeld
                            clear hHeld
                            clear P C7 r1 s1 m1 o1
                            have P := Lib.hid qP
                            clear qP 
                            refine wpAnyH_ready (rs := [12]) (by kernel_rfl) (by simp) ?_
                            refine' (AllReadyH.cons ?hoc12sx2x3x7x8 (fun K hK => ?stc12sx2x3x7x8) AllReadyH.nil)
                            case hoc12sx2x3x7x8 => (simp only [List.getElem?_toArray, List.getElem?_cons_succ, List.getElem?_cons_zero]; rfl)
                            have hb : Below Wqx2x3x7x8.heap.size Wqx2x3x7x8 (Wqx2x3x7x8.alloc (.cells #[.int .u8 (y : Int)] 5)) := (Below.refl _ _).alloc (Nat.le_refl _) _
                            have qS := And.intro ((hb.block _ (blk_lt hS.1)).trans hS.1) ((hb.block _ (blk_lt hS.2)).trans hS.2)
                            have qP := P.out.below hb
                            have qC12 := heap_alloc_new Wqx2x3x7x8 (.cells #[.int .u8 (y : Int)] 5)
                            refine step_bs1 rfl 37 1 (.tmp 63) rfl rfl (bs37 (y : Int) Wqx2x3x7x8) ?_
                            refine hK.out _ _ qS (fun hHeld => ?_)
                            clear hK K qS
                            try simp only [Act.put, List.setIfInBounds_toArray, List.set_cons_succ, List.set_cons_zero]
                            clear hS
                            have hS := hHeld
                            clear hHeld
                            clear hb P 
                            generalize Wqx2x3x7x8.alloc (.cells #[.int .u8 (y : Int)] 5) = Wbx2x3x7x8x12 at *
                            generalize Wqx2x3x7x8.heap.size = g12 at *
                            have P := Lib.hid qP
                            have C12 := Lib.hid qC12
                            clear qP qC12
                            refine wpAnyH_ready (rs := [13]) (by kernel_rfl) (by simp) ?_
                            refine' (AllReadyH.cons ?hoc13sx2x3x7x8x12 (fun K hK => ?stc13sx2x3x7x8x12) AllReadyH.nil)
                            case hoc13sx2x3x7x8x12 => (simp only [List.getElem?_toArray, List.getElem?_cons_succ, List.getElem?_cons_zero]; rfl)
                            obtain ⟨v13, Wqx2x3x7x8x12x13, r1, s1, m1, o1⟩ := push5 P.out.bs g12 (y : Int) C12.out (by have := HNE.out; omega)
                            have qP := P.out.addB AC.out.2.2.2 (ex.fst s.f 20, k5, y) s1 m1 o1
                            have qS := And.intro ((m1.block _ (blk_lt hS.1) (P.out.bs.ty hS.1 (by decide))).trans hS.1) ((m1.block _ (blk_lt hS.2) (P.out.bs.ty hS.2 (by decide))).trans hS.2)
                            refine dk.step_app_run rfl (.tmp 61) (.tmp 64) 37 rfl rfl rfl rfl r1 ?_
                            refine hK.out _ _ qS (fun hHeld => ?_)
                            clear hK K qS
                            try simp only [Act.put, List.setIfInBounds_toArray, List.set_cons_succ, List.set_cons_zero]
                            clear hS
                            have hS := hHeld
                            clear hHeld
                            clear P C12 r1 s1 m1 o1
                            have P := Lib.hid qP
                            clear qP 
                            refine' wpAnyH_take (i := 14) ?h1x14sx2x3x7x8x12x13 ?hsx14sx2x3x7x8x12x13 ?hfx14sx2x3x7x8x12x13 ?hrx14sx2x3x7x8x12x13 ?hQx14sx2x3x7x8x12x13 (Or.inl ⟨?hwx14sx2x3x7x8x12x13, ?hyx14sx2x3x7x8x12x13⟩) hS ?restx14sx2x3x7x8x12x13
                            case h1x14sx2x3x7x8x12x13 => (simp only [List.getElem?_toArray, List.getElem?_cons_succ, List.getElem?_cons_zero]; rfl)
                            case hsx14sx2x3x7x8x12x13 | hfx14sx2x3x7x8x12x13 | hrx14sx2x3x7x8x12x13 => kernel_rfl
                            case hQx14sx2x3x7x8x12x13 => exact fun _ _ _ h => h
                            case hwx14sx2x3x7x8x12x13 => rfl
                            case hyx14sx2x3x7x8x12x13 =>
                              intro W hW
                              go_simp
                              try with_reducible rfl
                            simp only [Act.put, List.setIfInBounds_toArray, List.set_cons_succ, List.set_cons_zero]
                            refine' wpAnyH_take (i := 15) ?h1x15sx2x3x7x8x12x13 ?hsx15sx2x3x7x8x12x13 ?hfx15sx2x3x7x8x12x13 ?hrx15sx2x3x7x8x12x13 ?hQx15sx2x3x7x8x12x13 (Or.inl ⟨?hwx15sx2x3x7x8x12x13, ?hyx15sx2x3x7x8x12x13⟩) hS ?restx15sx2x3x7x8x12x13
                            case h1x15sx2x3x7x8x12x13 => (simp only [List.getElem?_toArray, List.getElem?_cons_succ, List.getElem?_cons_zero]; rfl)
                            case hsx15sx2x3x7x8x12x13 | hfx15sx2x3x7x8x12x13 | hrx15sx2x3x7x8x12x13 => kernel_rfl
                            case hQx15sx2x3x7x8x12x13 => exact fun _ _ _ h => h
                            case hwx15sx2x3x7x8x12x13 => rfl
                            case hyx15sx2x3x7x8x12x13 =>
                              intro W hW
                              go_simp
                              try with_reducible rfl
                            simp only [Act.put, List.setIfInBounds_toArray, List.set_cons_succ, List.set_cons_zero]
                            refine' wpAnyH_take (i := 16) ?h1x16sx2x3x7x8x12x13 ?hsx16sx2x3x7x8x12x13 ?hfx16sx2x3x7x8x12x13 ?hrx16sx2x3x7x8x12x13 ?hQx16sx2x3x7x8x12x13 (Or.inl ⟨?hwx16sx2x3x7x8x12x13, ?hyx16sx2x3x7x8x12x13⟩) hS ?restx16sx2x3x7x8x12x13
                            case h1x16sx2x3x7x8x12x13 => (simp only [List.getElem?_toArray, List.getElem?_cons_succ, List.getElem?_cons_zero]; rfl)
                            case hsx16sx2x3x7x8x12x13 | hfx16sx2x3x7x8x12x13 | hrx16sx2x3x7x8x12x13 => kernel_rfl
                            case hQx16sx2x3x7x8x12x13 => exact fun _ _ _ h => h
                            case hwx16sx2x3x7x8x12x13 => rfl
                            case hyx16sx2x3x7x8x12x13 =>
                              intro W hW
                              go_simp
                              try with_reducible rfl
                            simp only [Act.put, List.setIfInBounds_toArray, List.set_cons_succ, List.set_cons_zero]
                            refine wpAnyH_done (by kernel_rfl) ?_ _
                            go_wp2_with fail
                            go_meet
                            exact ⟨_, D5, s5, S5, T5, P.out.whole, hS.1, P.out.los.1, NSQ5.out⟩
                          case stc12sx2x3x7 =>
                            have hb : Below Wbx2x3x7.heap.size Wbx2x3x7 (Wbx2x3x7.alloc (.cells #[.int .u8 (y : Int)] 5)) := (Below.refl _ _).alloc (Nat.le_refl _) _
                            have qS := And.intro ((hb.block _ (blk_lt hS.1)).trans hS.1) ((hb.block _ (blk_lt hS.2)).trans hS.2)
                            have qP := P.out.below hb
                            have qC12 := heap_alloc_new Wbx2x3x7 (.cells #[.int .u8 (y : Int)] 5)
                            have qC7 := (hb.block _ (blk_lt C7.out)).trans C7.out
                            refine step_bs1 rfl 37 1 (.tmp 63) rfl rfl (bs37 (y : Int) Wbx2x3x7) ?_
                            refine hK.out _ _ qS (fun hHeld => ?_)
                            clear hK K qS
                            try simp only [Act.put, List.setIfInBounds_toArray, List.set_cons_succ, List.set_cons_zero]
                            clear hS
                            have hS := hHeld
                            clear hHeld
                            clear hb P C7
                            generalize Wbx2x3x7.alloc (.cells #[.int .u8 (y : Int)] 5) = Wbx2x3x7x12 at *
                            generalize Wbx2x3x7.heap.size = g12 at *
                            have P := Lib.hid qP
                            have C7 := Lib.hid qC7
                            have C12 := Lib.hid qC12
                            clear qP qC7 qC12
                            refine wpAnyH_ready (rs := [8]) (by kernel_rfl) (by simp) ?_
                            refine' (AllReadyH.cons ?hoc8sx2x3x7x12 (fun K hK => ?stc8sx2x3x7x12) AllReadyH.nil)
                            case hoc8sx2x3x7x12 => (simp only [List.getElem?_toArray, List.getElem?_cons_succ, List.getElem?_cons_zero]; rfl)
                            obtain ⟨v8, Wqx2x3x7x12x8, r1, s1, m1, o1⟩ := push3 P.out.wh g7 t' C7.out (by have := HNE.out; omega)
                            have qP := P.out.addW3 AC.out.2.2.2 (ex.fst s.f 20) k5 y t' K5.out s1 m1 o1
                            have qS := And.intro ((m1.block _ (blk_lt hS.1) (P.out.wh.ty hS.1 (by decide))).trans hS.1) ((m1.block _ (blk_lt hS.2) (P.out.wh.ty hS.2 (by decide))).trans hS.2)
                            have qC12 := (m1.block _ (blk_lt C12.out) (P.out.wh.ty C12.out (by decide))).trans C12.out
                            refine dk.step_app_run rfl (.tmp 56) (.tmp 59) 50 rfl rfl rfl rfl r1 ?_
                            refine hK.out _ _ qS (fun hHeld => ?_)
                            clear hK K qS
                            try simp only [Act.put, List.setIfInBounds_toArray, List.set_cons_succ, List.set_cons_zero]
                            clear hS
                            have hS := hHeld
                            clear hHeld
                            clear P C7 C12 r1 s1 m1 o1
                            have P := Lib.hid qP
                            have C12 := Lib.hid qC12
                            clear qP qC12
                            refine wpAnyH_ready (rs := [13]) (by kernel_rfl) (by simp) ?_
                            refine' (AllReadyH.cons ?hoc13sx2x3x7x12x8 (fun K hK => ?stc13sx2x3x7x12x8) AllReadyH.nil)
                            case hoc13sx2x3x7x12x8 => (simp only [List.getElem?_toArray, List.getElem?_cons_succ, List.getElem?_cons_zero]; rfl)
                            obtain ⟨v13, Wqx2x3x7x12x8x13, r1, s1, m1, o1⟩ := push5 P.out.bs g12 (y : Int) C12.out (by have := HNE.out; omega)
                            have qP := P.out.addB AC.out.2.2.2 (ex.fst s.f 20, k5, y) s1 m1 o1
                            have qS := And.intro ((m1.block _ (blk_lt hS.1) (P.out.bs.ty hS.1 (by decide))).trans hS.1) ((m1.block _ (blk_lt hS.2) (P.out.bs.ty hS.2 (by decide))).trans hS.2)
                            refine dk.step_app_run rfl (.tmp 61) (.tmp 64) 37 rfl rfl rfl rfl r1 ?_
                            refine hK.out _ _ qS (fun hHeld => ?_)
                            clear hK K qS
                            try simp only [Act.put, List.setIfInBounds_toArray, List.set_cons_succ, List.set_cons_zero]
                            clear hS
                            have hS := hHeld
                            clear hHeld
                            clear P C12 r1 s1 m1 o1
                            have P := Lib.hid qP
                            clear qP 
                            refine' wpAnyH_take (i := 14) ?h1x14sx2x3x7x12x8x13 ?hsx14sx2x3x7x12x8x13 ?hfx14sx2x3x7x12x8x13 ?hrx14sx2x3x7x12x8x13 ?hQx14sx2x3x7x12x8x13 (Or.inl ⟨?hwx14sx2x3x7x12x8x13, ?hyx14sx2x3x7x12x8x13⟩) hS ?restx14sx2x3x7x12x8x13
                            case h1x14sx2x3x7x12x8x13 => (simp only [List.getElem?_toArray, List.getElem?_cons_succ, List.getElem?_cons_zero]; rfl)
                            case hsx14sx2x3x7x12x8x13 | hfx14sx2x3x7x12x8x13 | hrx14sx2x3x7x12x8x13 => kernel_rfl
                            case hQx14sx2x3x7x12x8x13 => exact fun _ _ _ h => h
                            case hwx14sx2x3x7x12x8x13 => rfl
                            case hyx14sx2x3x7x12x8x13 =>
                              intro W hW
                              go_simp
                              try with_reducible rfl
                            simp only [Act.put, List.setIfInBounds_toArray, List.set_cons_succ, List.set_cons_zero]
                            refine' wpAnyH_take (i := 15) ?h1x15sx2x3x7x12x8x13 ?hsx15sx2x3x7x12x8x13 ?hfx15sx2x3x7x12x8x13 ?hrx15sx2x3x7x12x8x13 ?hQx15sx2x3x7x12x8x13 (Or.inl ⟨?hwx15sx2x3x7x12x8x13, ?hyx15sx2x3x7x12x8x13⟩) hS ?restx15sx2x3x7x12x8x13
                            case h1x15sx2x3x7x12x8x13 => (simp only [List.getElem?_toArray, List.getElem?_cons_succ, List.getElem?_cons_zero]; rfl)
                            case hsx15sx2x3x7x12x8x13 | hfx15sx2x3x7x12x8x13 | hrx15sx2x3x7x12x8x13 => kernel_rfl
                            case hQx15sx2x3x7x12x8x13 => exact fun _ _ _ h => h
                            case hwx15sx2x3x7x12x8x13 => rfl
                            case hyx15sx2x3x7x12x8x13 =>
                              intro W hW
                              go_simp
                              try with_reducible rfl
                            simp only [Act.put, List.setIfInBounds_toArray, List.set_cons_succ, List.set_cons_zero]
                            refine' wpAnyH_take (i := 16) ?h1x16sx2x3x7x12x8x13 ?hsx16sx2x3x7x12x8x13 ?hfx16sx2x3x7x12x8x13 ?hrx16sx2x3x7x12x8x13 ?hQx16sx2x3x7x12x8x13 (Or.inl ⟨?hwx16sx2x3x7x12x8x13, ?hyx16sx2x3x7x12x8x13⟩) hS ?restx16sx2x3x7x12x8x13
                            case h1x16sx2x3x7x12x8x13 => (simp only [List.getElem?_toArray, List.getElem?_cons_succ, List.getElem?_cons_zero]; rfl)
                            case hsx16sx2x3x7x12x8x13 | hfx16sx2x3x7x12x8x13 | hrx16sx2x3x7x12x8x13 => kernel_rfl
                            case hQx16sx2x3x7x12x8x13 => exact fun _ _ _ h => h
                            case hwx16sx2x3x7x12x8x13 => rfl
                            case hyx16sx2x3x7x12x8x13 =>
                              intro W hW
                              go_simp
                              try with_reducible rfl
                            simp only [Act.put, List.setIfInBounds_toArray, List.set_cons_succ, List.set_cons_zero]
                            refine wpAnyH_done (by kernel_rfl) ?_ _
                            go_wp2_with fail
                            go_meet
                            exact ⟨_, D5, s5, S5, T5, P.out.whole, hS.1, P.out.los.1, NSQ5.out⟩
                        case stc12sx2x3 =>
                          have hb : Below Wqx2x3.heap.size Wqx2x3 (Wqx2x3.alloc (.cells #[.int .u8 (y : Int)] 5)) := (Below.refl _ _).alloc (Nat.le_refl _) _
                          have qS := And.intro ((hb.block _ (blk_lt hS.1)).trans hS.1) ((hb.block _ (blk_lt hS.2)).trans hS.2)
                          have qP := P.out.below hb
                          have qC12 := heap_alloc_new Wqx2x3 (.cells #[.int .u8 (y : Int)] 5)
                          refine step_bs1 rfl 37 1 (.tmp 63) rfl rfl (bs37 (y : Int) Wqx2x3) ?_
                          refine hK.out _ _ qS (fun hHeld => ?_)
                          clear hK K qS
                          try simp only [Act.put, List.setIfInBounds_toArray, List.set_cons_succ, List.set_cons_zero]
                          clear hS
                          have hS := hHeld
                          clear hHeld
                          clear hb P 
                          generalize Wqx2x3.alloc (.cells #[.int .u8 (y : Int)] 5) = Wbx2x3x12 at *
                          generalize Wqx2x3.heap.size = g12 at *
                          have P := Lib.hid qP
                          have C12 := Lib.hid qC12
                          clear qP qC12
                          refine wpAnyH_ready (rs := [7]) (by kernel_rfl) (by simp) ?_
                          refine' (AllReadyH.cons ?hoc7sx2x3x12 (fun K hK => ?stc7sx2x3x12) AllReadyH.nil)
                          case hoc7sx2x3x12 => (simp only [List.getElem?_toArray, List.getElem?_cons_succ, List.getElem?_cons_zero]; rfl)
                          have hb : Below Wbx2x3x12.heap.size Wbx2x3x12 (Wbx2x3x12.alloc (.cells #[.int .i64 t'] 3)) := (Below.refl _ _).alloc (Nat.le_refl _) _
                          have qS := And.intro ((hb.block _ (blk_lt hS.1)).trans hS.1) ((hb.block _ (blk_lt hS.2)).trans hS.2)
                          have qP := P.out.below hb
                          have qC7 := heap_alloc_new Wbx2x3x12 (.cells #[.int .i64 t'] 3)
                          have qC12 := (hb.block _ (blk_lt C12.out)).trans C12.out
                          refine step_bs1 rfl 50 1 (.tmp 58) rfl rfl (bs50 t' Wbx2x3x12) ?_
                          refine hK.out _ _ qS (fun hHeld => ?_)
                          clear hK K qS
                          try simp only [Act.put, List.setIfInBounds_toArray, List.set_cons_succ, List.set_cons_zero]
                          clear hS
                          have hS := hHeld
                          clear hHeld
                          clear hb P C12
                          generalize Wbx2x3x12.alloc (.cells #[.int .i64 t'] 3) = Wbx2x3x12x7 at *
                          generalize Wbx2x3x12.heap.size = g7 at *
                          have P := Lib.hid qP
                          have C12 := Lib.hid qC12
                          have C7 := Lib.hid qC7
                          clear qP qC12 qC7
                          refine wpAnyH_ready (rs := [8]) (by kernel_rfl) (by simp) ?_
                          refine' (AllReadyH.cons ?hoc8sx2x3x12x7 (fun K hK => ?stc8sx2x3x12x7) AllReadyH.nil)
                          case hoc8sx2x3x12x7 => (simp only [List.getElem?_toArray, List.getElem?_cons_succ, List.getElem?_cons_zero]; rfl)
                          obtain ⟨v8, Wqx2x3x12x7x8, r1, s1, m1, o1⟩ := push3 P.out.wh g7 t' C7.out (by have := HNE.out; omega)
                          have qP := P.out.addW3 AC.out.2.2.2 (ex.fst s.f 20) k5 y t' K5.out s1 m1 o1
                          have qS := And.intro ((m1.block _ (blk_lt hS.1) (P.out.wh.ty hS.1 (by decide))).trans hS.1) ((m1.block _ (blk_lt hS.2) (P.out.wh.ty hS.2 (by decide))).trans hS.2)
                          have qC12 := (m1.block _ (blk_lt C12.out) (P.out.wh.ty C12.out (by decide))).trans C12.out
                          refine dk.step_app_run rfl (.tmp 56) (.tmp 59) 50 rfl rfl rfl rfl r1 ?_
                          refine hK.out _ _ qS (fun hHeld => ?_)
                          clear hK K qS
                          try simp only [Act.put, List.setIfInBounds_toArray, List.set_cons_succ, List.set_cons_zero]
                          clear hS
                          have hS := hHeld
                          clear hHeld
                          clear P C12 C7 r1 s1 m1 o1
                          have P := Lib.hid qP
                          have C12 := Lib.hid qC12
                          clear qP qC12
                          refine wpAnyH_ready (rs := [13]) (by kernel_rfl) (by simp) ?_
                          refine' (AllReadyH.cons ?hoc13sx2x3x12x7x8 (fun K hK => ?stc13sx2x3x12x7x8) AllReadyH.nil)
                          case hoc13sx2x3x12x7x8 => (simp only [List.getElem?_toArray, List.getElem?_cons_succ, List.getElem?_cons_zero]; rfl)
                          obtain ⟨v13, Wqx2x3x12x7x8x13, r1, s1, m1, o1⟩ := push5 P.out.bs g12 (y : Int) C12.out (by have := HNE.out; omega)
                          have qP := P.out.addB AC.out.2.2.2 (ex.fst s.f 20, k5, y) s1 m1 o1
                          have qS := And.intro ((m1.block _ (blk_lt hS.1) (P.out.bs.ty hS.1 (by decide))).trans hS.1) ((m1.block _ (blk_lt hS.2) (P.out.bs.ty hS.2 (by decide))).trans hS.2)
                          refine dk.step_app_run rfl (.tmp 61) (.tmp 64) 37 rfl rfl rfl rfl r1 ?_
                          refine hK.out _ _ qS (fun hHeld => ?_)
                          clear hK K qS
                          try simp only [Act.put, List.setIfInBounds_toArray, List.set_cons_succ, List.set_cons_zero]
                          clear hS
                          have hS := hHeld
                          clear hHeld
                          clear P C12 r1 s1 m1 o1
                          have P := Lib.hid qP
                          clear qP 
                          refine' wpAnyH_take (i := 14) ?h1x14sx2x3x12x7x8x13 ?hsx14sx2x3x12x7x8x13 ?hfx14sx2x3x12x7x8x13 ?hrx14sx2x3x12x7x8x13 ?hQx14sx2x3x12x7x8x13 (Or.inl ⟨?hwx14sx2x3x12x7x8x13, ?hyx14sx2x3x12x7x8x13⟩) hS ?restx14sx2x3x12x7x8x13
                          case h1x14sx2x3x12x7x8x13 => (simp only [List.getElem?_toArray, List.getElem?_cons_succ, List.getElem?_cons_zero]; rfl)
                          case hsx14sx2x3x12x7x8x13 | hfx14sx2x3x12x7x8x13 | hrx14sx2x3x12x7x8x13 => kernel_rfl
                          case hQx14sx2x3x12x7x8x13 => exact fun _ _ _ h => h
                          case hwx14sx2x3x12x7x8x13 => rfl
                          case hyx14sx2x3x12x7x8x13 =>
                            intro W hW
                            go_simp
                            try with_reducible rfl
                          simp only [Act.put, List.setIfInBounds_toArray, List.set_cons_succ, List.set_cons_zero]
                          refine' wpAnyH_take (i := 15) ?h1x15sx2x3x12x7x8x13 ?hsx15sx2x3x12x7x8x13 ?hfx15sx2x3x12x7x8x13 ?hrx15sx2x3x12x7x8x13 ?hQx15sx2x3x12x7x8x13 (Or.inl ⟨?hwx15sx2x3x12x7x8x13, ?hyx15sx2x3x12x7x8x13⟩) hS ?restx15sx2x3x12x7x8x13
                          case h1x15sx2x3x12x7x8x13 => (simp only [List.getElem?_toArray, List.getElem?_cons_succ, List.getElem?_cons_zero]; rfl)
                          case hsx15sx2x3x12x7x8x13 | hfx15sx2x3x12x7x8x13 | hrx15sx2x3x12x7x8x13 => kernel_rfl
                          case hQx15sx2x3x12x7x8x13 => exact fun _ _ _ h => h
                          case hwx15sx2x3x12x7x8x13 => rfl
                          case hyx15sx2x3x12x7x8x13 =>
                            intro W hW
                            go_simp
                            try with_reducible rfl
                          simp only [Act.put, List.setIfInBounds_toArray, List.set_cons_succ, List.set_cons_zero]
                          refine' wpAnyH_take (i := 16) ?h1x16sx2x3x12x7x8x13 ?hsx16sx2x3x12x7x8x13 ?hfx16sx2x3x12x7x8x13 ?hrx16sx2x3x12x7x8x13 ?hQx16sx2x3x12x7x8x13 (Or.inl ⟨?hwx16sx2x3x12x7x8x13, ?hyx16sx2x3x12x7x8x13⟩) hS ?restx16sx2x3x12x7x8x13
                          case h1x16sx2x3x12x7x8x13 => (simp only [List.getElem?_toArray, List.getElem?_cons_succ, List.getElem?_cons_zero]; rfl)
                          case hsx16sx2x3x12x7x8x13 | hfx16sx2x3x12x7x8x13 | hrx16sx2x3x12x7x8x13 => kernel_rfl
                          case hQx16sx2x3x12x7x8x13 => exact fun _ _ _ h => h
                          case hwx16sx2x3x12x7x8x13 => rfl
                          case hyx16sx2x3x12x7x8x13 =>
                            intro W hW
                            go_simp
                            try with_reducible rfl
                          simp only [Act.put, List.setIfInBounds_toArray, List.set_cons_succ, List.set_cons_zero]
                          refine wpAnyH_done (by kernel_rfl) ?_ _
                          go_wp2_with fail
                          go_meet
                          exact ⟨_, D5, s5, S5, T5, P.out.whole, hS.1, P.out.los.1, NSQ5.out⟩
                      case stc7sx2 =>
                        have hb : Below Wbx2.heap.size Wbx2 (Wbx2.alloc (.cells #[.int .i64 t'] 3)) := (Below.refl _ _).alloc (Nat.le_refl _) _
                        have qS := And.intro ((hb.block _ (blk_lt hS.1)).trans hS.1) ((hb.block _ (blk_lt hS.2)).trans hS.2)
                        have qP := P.out.below hb
                        have qC7 := heap_alloc_new Wbx2 (.cells #[.int .i64 t'] 3)
                        have qC2 := (hb.block _ (blk_lt C2.out)).trans C2.out
                        refine step_bs1 rfl 50 1 (.tmp 58) rfl rfl (bs50 t' Wbx2) ?_
                        refine hK.out _ _ qS (fun hHeld => ?_)
                        clear hK K qS
                        try simp only [Act.put, List.setIfInBounds_toArray, List.set_cons_succ, List.set_cons_zero]
                        clear hS
                        have hS := hHeld
                        clear hHeld
                        clear hb P C2
                        generalize Wbx2.alloc (.cells #[.int .i64 t'] 3) = Wbx2x7 at *
                        generalize Wbx2.heap.size = g7 at *
                        have P := Lib.hid qP
                        have C2 := Lib.hid qC2
                        have C7 := Lib.hid qC7
                        clear qP qC2 qC7
                        refine wpAnyH_ready (rs := [3, 12]) (by kernel_rfl) (by simp) ?_
                        refine' (AllReadyH.cons ?hoc3sx2x7 (fun K hK => ?stc3sx2x7) (AllReadyH.cons ?hoc12sx2x7 (fun K hK => ?stc12sx2x7) AllReadyH.nil))
                        case hoc3sx2x7 => (simp only [List.getElem?_toArray, List.getElem?_cons_succ, List.getElem?_cons_zero]; rfl)
                        case hoc12sx2x7 => (simp only [List.getElem?_toArray, List.getElem?_cons_succ, List.getElem?_cons_zero]; rfl)
                        case stc3sx2x7 =>
                          obtain ⟨v3, Wqx2x7x3, r1, s1, m1, o1⟩ := push26 P.out.l g2 Cl HL33.out HO33.out C2.out (by have := HNE.out; omega)
                          have qP := P.out.addL3 AC.out.2.2.2 (ex.fst s.f 20) k5 y Cl HCL.out s1 m1 o1
                          have qS := And.intro ((m1.block _ (blk_lt hS.1) (P.out.l.ty hS.1 (by decide))).trans hS.1) ((m1.block _ (blk_lt hS.2) NV.out).trans hS.2)
                          have qC7 := (m1.block _ (blk_lt C7.out) (P.out.l.ty C7.out (by decide))).trans C7.out
                          refine dk.step_app_run rfl (.tmp 52) (.tmp 54) 49 rfl rfl rfl rfl r1 ?_
                          refine hK.out _ _ qS (fun hHeld => ?_)
                          clear hK K qS
                          try simp only [Act.put, List.setIfInBounds_toArray, List.set_cons_succ, List.set_cons_zero]
                          clear hS
                          have hS := hHeld
                          clear hHeld
                          clear P C2 C7 r1 s1 m1 o1
                          have P := Lib.hid qP
                          have C7 := Lib.hid qC7
                          clear qP qC7
                          refine wpAnyH_ready (rs := [8, 12]) (by kernel_rfl) (by simp) ?_
                          refine' (AllReadyH.cons ?hoc8sx2x7x3 (fun K hK => ?stc8sx2x7x3) (AllReadyH.cons ?hoc12sx2x7x3 (fun K hK => ?stc12sx2x7x3) AllReadyH.nil))
                          case hoc8sx2x7x3 => (simp only [List.getElem?_toArray, List.getElem?_cons_succ, List.getElem?_cons_zero]; rfl)
                          case hoc12sx2x7x3 => (simp only [List.getElem?_toArray, List.getElem?_cons_succ, List.getElem?_cons_zero]; rfl)
                          case stc8sx2x7x3 =>
                            obtain ⟨v8, Wqx2x7x3x8, r1, s1, m1, o1⟩ := push3 P.out.wh g7 t' C7.out (by have := HNE.out; omega)
                            have qP := P.out.addW3 AC.out.2.2.2 (ex.fst s.f 20) k5 y t' K5.out s1 m1 o1
                            have qS := And.intro ((m1.block _ (blk_lt hS.1) (P.out.wh.ty hS.1 (by decide))).trans hS.1) ((m1.block _ (blk_lt hS.2) (P.out.wh.ty hS.2 (by decide))).trans hS.2)
                            refine dk.step_app_run rfl (.tmp 56) (.tmp 59) 50 rfl rfl rfl rfl r1 ?_
                            refine hK.out _ _ qS (fun hHeld => ?_)
                            clear hK K qS
                            try simp only [Act.put, List.setIfInBounds_toArray, List.set_cons_succ, List.set_cons_zero]
                            clear hS
                            have hS := hHeld
                            clear hHeld
                            clear P C7 r1 s1 m1 o1
                            have P := Lib.hid qP
                            clear qP 
                            refine wpAnyH_ready (rs := [12]) (by kernel_rfl) (by simp) ?_
                            refine' (AllReadyH.cons ?hoc12sx2x7x3x8 (fun K hK => ?stc12sx2x7x3x8) AllReadyH.nil)
                            case hoc12sx2x7x3x8 => (simp only [List.getElem?_toArray, List.getElem?_cons_succ, List.getElem?_cons_zero]; rfl)
                            have hb : Below Wqx2x7x3x8.heap.size Wqx2x7x3x8 (Wqx2x7x3x8.alloc (.cells #[.int .u8 (y : Int)] 5)) := (Below.refl _ _).alloc (Nat.le_refl _) _
                            have qS := And.intro ((hb.block _ (blk_lt hS.1)).trans hS.1) ((hb.block _ (blk_lt hS.2)).trans hS.2)
                            have qP := P.out.below hb
                            have qC12 := heap_alloc_new Wqx2x7x3x8 (.cells #[.int .u8 (y : Int)] 5)
                            refine step_bs1 rfl 37 1 (.tmp 63) rfl rfl (bs37 (y : Int) Wqx2x7x3x8) ?_
                            refine hK.out _ _ qS (fun hHeld => ?_)
                            clear hK K qS
                            try simp only [Act.put, List.setIfInBounds_toArray, List.set_cons_succ, List.set_cons_zero]
                            clear hS
                            have hS := hHeld
                            clear hHeld
                            clear hb P 
                            generalize Wqx2x7x3x8.alloc (.cells #[.int .u8 (y : Int)] 5) = Wbx2x7x3x8x12 at *
                            generalize Wqx2x7x3x8.heap.size = g12 at *
                            have P := Lib.hid qP
                            have C12 := Lib.hid qC12
                            clear qP qC12
                            refine wpAnyH_ready (rs := [13]) (by kernel_rfl) (by simp) ?_
                            refine' (AllReadyH.cons ?hoc13sx2x7x3x8x12 (fun K hK => ?stc13sx2x7x3x8x12) AllReadyH.nil)
                            case hoc13sx2x7x3x8x12 => (simp only [List.getElem?_toArray, List.getElem?_cons_succ, List.getElem?_cons_zero]; rfl)
                            obtain ⟨v13, Wqx2x7x3x8x12x13, r1, s1, m1, o1⟩ := push5 P.out.bs g12 (y : Int) C12.out (by have := HNE.out; omega)
                            have qP := P.out.addB AC.out.2.2.2 (ex.fst s.f 20, k5, y) s1 m1 o1
                            have qS := And.intro ((m1.block _ (blk_lt hS.1) (P.out.bs.ty hS.1 (by decide))).trans hS.1) ((m1.block _ (blk_lt hS.2) (P.out.bs.ty hS.2 (by decide))).trans hS.2)
                            refine dk.step_app_run rfl (.tmp 61) (.tmp 64) 37 rfl rfl rfl rfl r1 ?_
                            refine hK.out _ _ qS (fun hHeld => ?_)
                            clear hK K qS
                            try simp only [Act.put, List.setIfInBounds_toArray, List.set_cons_succ, List.set_cons_zero]
                            clear hS
                            have hS := hHeld
                            clear hHeld
                            clear P C12 r1 s1 m1 o1
                            have P := Lib.hid qP
                            clear qP 
                            refine' wpAnyH_take (i := 14) ?h1x14sx2x7x3x8x12x13 ?hsx14sx2x7x3x8x12x13 ?hfx14sx2x7x3x8x12x13 ?hrx14sx2x7x3x8x12x13 ?hQx14sx2x7x3x8x12x13 (Or.inl ⟨?hwx14sx2x7x3x8x12x13, ?hyx14sx2x7x3x8x12x13⟩) hS ?restx14sx2x7x3x8x12x13
                            case h1x14sx2x7x3x8x12x13 => (simp only [List.getElem?_toArray, List.getElem?_cons_succ, List.getElem?_cons_zero]; rfl)
                            case hsx14sx2x7x3x8x12x13 | hfx14sx2x7x3x8x12x13 | hrx14sx2x7x3x8x12x13 => kernel_rfl
                            case hQx14sx2x7x3x8x12x13 => exact fun _ _ _ h => h
                            case hwx14sx2x7x3x8x12x13 => rfl
                            case hyx14sx2x7x3x8x12x13 =>
                              intro W hW
                              go_simp
                              try with_reducible rfl
                            simp only [Act.put, List.setIfInBounds_toArray, List.set_cons_succ, List.set_cons_zero]
                            refine' wpAnyH_take (i := 15) ?h1x15sx2x7x3x8x12x13 ?hsx15sx2x7x3x8x12x13 ?hfx15sx2x7x3x8x12x13 ?hrx15sx2x7x3x8x12x13 ?hQx15sx2x7x3x8x12x13 (Or.inl ⟨?hwx15sx2x7x3x8x12x13, ?hyx15sx2x7x3x8x12x13⟩) hS ?restx15sx2x7x3x8x12x13
                            case h1x15sx2x7x3x8x12x13 => (simp only [List.getElem?_toArray, List.getElem?_cons_succ, List.getElem?_cons_zero]; rfl)
                            case hsx15sx2x7x3x8x12x13 | hfx15sx2x7x3x8x12x13 | hrx15sx2x7x3x8x12x13 => kernel_rfl
                            case hQx15sx2x7x3x8x12x13 => exact fun _ _ _ h => h
                            case hwx15sx2x7x3x8x12x13 => rfl
                            case hyx15sx2x7x3x8x12x13 =>
                              intro W hW
                              go_simp
                              try with_reducible rfl
                            simp only [Act.put, List.setIfInBounds_toArray, List.set_cons_succ, List.set_cons_zero]
                            refine' wpAnyH_take (i := 16) ?h1x16sx2x7x3x8x12x13 ?hsx16sx2x7x3x8x12x13 ?hfx16sx2x7x3x8x12x13 ?hrx16sx2x7x3x8x12x13 ?hQx16sx2x7x3x8x12x13 (Or.inl ⟨?hwx16sx2x7x3x8x12x13, ?hyx16sx2x7x3x8x12x13⟩) hS ?restx16sx2x7x3x8x12x13
                            case h1x16sx2x7x3x8x12x13 => (simp only [List.getElem?_toArray, List.getElem?_cons_succ, List.getElem?_cons_zero]; rfl)
                            case hsx16sx2x7x3x8x12x13 | hfx16sx2x7x3x8x12x13 | hrx16sx2x7x3x8x12x13 => kernel_rfl
                            case hQx16sx2x7x3x8x12x13 => exact fun _ _ _ h => h
                            case hwx16sx2x7x3x8x12x13 => rfl
                            case hyx16sx2x7x3x8x12x13 =>
                              intro W hW
                              go_simp
                              try with_reducible rfl
                            simp only [Act.put, List.setIfInBounds_toArray, List.set_cons_succ, List.set_cons_zero]
                            refine wpAnyH_done (by kernel_rfl) ?_ _
                            go_wp2_with fail
                            go_meet
                            exact ⟨_, D5, s5, S5, T5, P.out.whole, hS.1, P.out.los.1, NSQ5.out⟩
                          case stc12sx2x7x3 =>
                            have hb : Below Wqx2x7x3.heap.size Wqx2x7x3 (Wqx2x7x3.alloc (.cells #[.int .u8 (y : Int)] 5)) := (Below.refl _ _).alloc (Nat.le_refl _) _
                            have qS := And.intro ((hb.block _ (blk_lt hS.1)).trans hS.1) ((hb.block _ (blk_lt hS.2)).trans hS.2)
                            have qP := P.out.below hb
                            have qC12 := heap_alloc_new Wqx2x7x3 (.cells #[.int .u8 (y : Int)] 5)
                            have qC7 := (hb.block _ (blk_lt C7.out)).trans C7.out
                            refine step_bs1 rfl 37 1 (.tmp 63) rfl rfl (bs37 (y : Int) Wqx2x7x3) ?_
                            refine hK.out _ _ qS (fun hHeld => ?_)
                            clear hK K qS
                            try simp only [Act.put, List.setIfInBounds_toArray, List.set_cons_succ, List.set_cons_zero]
                            clear hS
                            have hS := hHeld
                            clear hHeld
                            clear hb P C7
                            generalize Wqx2x7x3.alloc (.cells #[.int .u8 (y : Int)] 5) = Wbx2x7x3x12 at *
                            generalize Wqx2x7x3.heap.size = g12 at *
                            have P := Lib.hid qP
                            have C7 := Lib.hid qC7
                            have C12 := Lib.hid qC12
                            clear qP qC7 qC12
                            refine wpAnyH_ready (rs := [8]) (by kernel_rfl) (by simp) ?_
                            refine' (AllReadyH.cons ?hoc8sx2x7x3x12 (fun K hK => ?stc8sx2x7x3x12) AllReadyH.nil)
                            case hoc8sx2x7x3x12 => (simp only [List.getElem?_toArray, List.getElem?_cons_succ, List.getElem?_cons_zero]; rfl)
                            obtain ⟨v8, Wqx2x7x3x12x8, r1, s1, m1, o1⟩ := push3 P.out.wh g7 t' C7.out (by have := HNE.out; omega)
                            have qP := P.out.addW3 AC.out.2.2.2 (ex.fst s.f 20) k5 y t' K5.out s1 m1 o1
                            have qS := And.intro ((m1.block _ (blk_lt hS.1) (P.out.wh.ty hS.1 (by decide))).trans hS.1) ((m1.block _ (blk_lt hS.2) (P.out.wh.ty hS.2 (by decide))).trans hS.2)
                            have qC12 := (m1.block _ (blk_lt C12.out) (P.out.wh.ty C12.out (by decide))).trans C12.out
                            refine dk.step_app_run rfl (.tmp 56) (.tmp 59) 50 rfl rfl rfl rfl r1 ?_
                            refine hK.out _ _ qS (fun hHeld => ?_)
                            clear hK K qS
                            try simp only [Act.put, List.setIfInBounds_toArray, List.set_cons_succ, List.set_cons_zero]
                            clear hS
                            have hS := hHeld
                            clear hHeld
                            clear P C7 C12 r1 s1 m1 o1
                            have P := Lib.hid qP
                            have C12 := Lib.hid qC12
                            clear qP qC12
                            refine wpAnyH_ready (rs := [13]) (by kernel_rfl) (by simp) ?_
                            refine' (AllReadyH.cons ?hoc13sx2x7x3x12x8 (fun K hK => ?stc13sx2x7x3x12x8) AllReadyH.nil)
                            case hoc13sx2x7x3x12x8 => (simp only [List.getElem?_toArray, List.getElem?_cons_succ, List.getElem?_cons_zero]; rfl)
                            obtain ⟨v13, Wqx2x7x3x12x8x13, r1, s1, m1, o1⟩ := push5 P.out.bs g12 (y : Int) C12.out (by have := HNE.out; omega)
                            have qP := P.out.addB AC.out.2.2.2 (ex.fst s.f 20, k5, y) s1 m1 o1
                            have qS := And.intro ((m1.block _ (blk_lt hS.1) (P.out.bs.ty hS.1 (by decide))).trans hS.1) ((m1.block _ (blk_lt hS.2) (P.out.bs.ty hS.2 (by decide))).trans hS.2)
                            refine dk.step_app_run rfl (.tmp 61) (.tmp 64) 37 rfl rfl rfl rfl r1 ?_
                            refine hK.out _ _ qS (fun hHeld => ?_)
                            clear hK K qS
                            try simp only [Act.put, List.setIfInBounds_toArray, List.set_cons_succ, List.set_cons_zero]
                            clear hS
                            have hS := hHeld
                            clear hHeld
                            clear P C12 r1 s1 m1 o1
                            have P := Lib.hid qP
                            clear qP 
                            refine' wpAnyH_take (i := 14) ?h1x14sx2x7x3x12x8x13 ?hsx14sx2x7x3x12x8x13 ?hfx14sx2x7x3x12x8x13 ?hrx14sx2x7x3x12x8x13 ?hQx14sx2x7x3x12x8x13 (Or.inl ⟨?hwx14sx2x7x3x12x8x13, ?hyx14sx2x7x3x12x8x13⟩) hS ?restx14sx2x7x3x12x8x13
                            case h1x14sx2x7x3x12x8x13 => (simp only [List.getElem?_toArray, List.getElem?_cons_succ, List.getElem?_cons_zero]; rfl)
                            case hsx14sx2x7x3x12x8x13 | hfx14sx2x7x3x12x8x13 | hrx14sx2x7x3x12x8x13 => kernel_rfl
                            case hQx14sx2x7x3x12x8x13 => exact fun _ _ _ h => h
                            case hwx14sx2x7x3x12x8x13 => rfl
                            case hyx14sx2x7x3x12x8x13 =>
                              intro W hW
                              go_simp
                              try with_reducible rfl
                            simp only [Act.put, List.setIfInBounds_toArray, List.set_cons_succ, List.set_cons_zero]
                            refine' wpAnyH_take (i := 15) ?h1x15sx2x7x3x12x8x13 ?hsx15sx2x7x3x12x8x13 ?hfx15sx2x7x3x12x8x13 ?hrx15sx2x7x3x12x8x13 ?hQx15sx2x7x3x12x8x13 (Or.inl ⟨?hwx15sx2x7x3x12x8x13, ?hyx15sx2x7x3x12x8x13⟩) hS ?restx15sx2x7x3x12x8x13
                            case h1x15sx2x7x3x12x8x13 => (simp only [List.getElem?_toArray, List.getElem?_cons_succ, List.getElem?_cons_zero]; rfl)
                            case hsx15sx2x7x3x12x8x13 | hfx15sx2x7x3x12x8x13 | hrx15sx2x7x3x12x8x13 => kernel_rfl
                            case hQx15sx2x7x3x12x8x13 => exact fun _ _ _ h => h
                            case hwx15sx2x7x3x12x8x13 => rfl
                            case hyx15sx2x7x3x12x8x13 =>
                              intro W hW
                              go_simp
                              try with_reducible rfl
                            simp only [Act.put, List.setIfInBounds_toArray, List.set_cons_succ, List.set_cons_zero]
                            refine' wpAnyH_take (i := 16) ?h1x16sx2x7x3x12x8x13 ?hsx16sx2x7x3x12x8x13 ?hfx16sx2x7x3x12x8x13 ?hrx16sx2x7x3x12x8x13 ?hQx16sx2x7x3x12x8x13 (Or.inl ⟨?hwx16sx2x7x3x12x8x13, ?hyx16sx2x7x3x12x8x13⟩) hS ?restx16sx2x7x3x12x8x13
                            case h1x16sx2x7x3x12x8x13 => (simp only [List.getElem?_toArray, List.getElem?_cons_succ, List.getElem?_cons_zero]; rfl)
                            case hsx16sx2x7x3x12x8x13 | hfx16sx2x7x3x12x8x13 | hrx16sx2x7x3x12x8x13 => kernel_rfl
                            case hQx16sx2x7x3x12x8x13 => exact fun _ _ _ h => h
                            case hwx16sx2x7x3x12x8x13 => rfl
                            case hyx16sx2x7x3x12x8x13 =>
                              intro W hW
                              go_simp
                              try with_reducible rfl
                            simp only [Act.put, List.setIfInBounds_toArray, List.set_cons_succ, List.set_cons_zero]
                            refine wpAnyH_done (by kernel_rfl) ?_ _
                            go_wp2_with fail
                            go_meet
                            exact ⟨_, D5, s5, S5, T5, P.out.whole, hS.1, P.out.los.1, NSQ5.out⟩
                        case stc12sx2x7 =>
                          have hb : Below Wbx2x7.heap.size Wbx2x7 (Wbx2x7.alloc (.cells #[.int .u8 (y : Int)] 5)) := (Below.refl _ _).alloc (Nat.le_refl _) _
                          have qS := And.intro ((hb.block _ (blk_lt hS.1)).trans hS.1) ((hb.block _ (blk_lt hS.2)).trans hS.2)
                          have qP := P.out.below hb
                          have qC12 := heap_alloc_new Wbx2x7 (.cells #[.int .u8 (y : Int)] 5)
                          have qC2 := (hb.block _ (blk_lt C2.out)).trans C2.out
                          have qC7 := (hb.block _ (blk_lt C7.out)).trans C7.out
                          refine step_bs1 rfl 37 1 (.tmp 63) rfl rfl (bs37 (y : Int) Wbx2x7) ?_
                          refine hK.out _ _ qS (fun hHeld => ?_)
                          clear hK K qS
                          try simp only [Act.put, List.setIfInBounds_toArray, List.set_cons_succ, List.set_cons_zero]
                          clear hS
                          have hS := hHeld
                          clear hHeld
                          clear hb P C2 C7
                          generalize Wbx2x7.alloc (.cells #[.int .u8 (y : Int)] 5) = Wbx2x7x12 at *
                          generalize Wbx2x7.heap.size = g12 at *
                          have P := Lib.hid qP
                          have C2 := Lib.hid qC2
                          have C7 := Lib.hid qC7
                          have C12 := Lib.hid qC12
                          clear qP qC2 qC7 qC12
                          refine wpAnyH_ready (rs := [3]) (by kernel_rfl) (by simp) ?_
                          refine' (AllReadyH.cons ?hoc3sx2x7x12 (fun K hK => ?stc3sx2x7x12) AllReadyH.nil)
                          case hoc3sx2x7x12 => (simp only [List.getElem?_toArray, List.getElem?_cons_succ, List.getElem?_cons_zero]; rfl)
                          obtain ⟨v3, Wqx2x7x12x3, r1, s1, m1, o1⟩ := push26 P.out.l g2 Cl HL33.out HO33.out C2.out (by have := HNE.out; omega)
                          have qP := P.out.addL3 AC.out.2.2.2 (ex.fst s.f 20) k5 y Cl HCL.out s1 m1 o1
                          have qS := And.intro ((m1.block _ (blk_lt hS.1) (P.out.l.ty hS.1 (by decide))).trans hS.1) ((m1.block _ (blk_lt hS.2) NV.out).trans hS.2)
                          have qC7 := (m1.block _ (blk_lt C7.out) (P.out.l.ty C7.out (by decide))).trans C7.out
                          have qC12 := (m1.block _ (blk_lt C12.out) (P.out.l.ty C12.out (by decide))).trans C12.out
                          refine dk.step_app_run rfl (.tmp 52) (.tmp 54) 49 rfl rfl rfl rfl r1 ?_
                          refine hK.out _ _ qS (fun hHeld => ?_)
                          clear hK K qS
                          try simp only [Act.put, List.setIfInBounds_toArray, List.set_cons_succ, List.set_cons_zero]
                          clear hS
                          have hS := hHeld
                          clear hHeld
                          clear P C2 C7 C12 r1 s1 m1 o1
                          have P := Lib.hid qP
                          have C7 := Lib.hid qC7
                          have C12 := Lib.hid qC12
                          clear qP qC7 qC12
                          refine wpAnyH_ready (rs := [8]) (by kernel_rfl) (by simp) ?_
                          refine' (AllReadyH.cons ?hoc8sx2x7x12x3 (fun K hK => ?stc8sx2x7x12x3) AllReadyH.nil)
                          case hoc8sx2x7x12x3 => (simp only [List.getElem?_toArray, List.getElem?_cons_succ, List.getElem?_cons_zero]; rfl)
                          obtain ⟨v8, Wqx2x7x12x3x8, r1, s1, m1, o1⟩ := push3 P.out.wh g7 t' C7.out (by have := HNE.out; omega)
                          have qP := P.out.addW3 AC.out.2.2.2 (ex.fst s.f 20) k5 y t' K5.out s1 m1 o1
                          have qS := And.intro ((m1.block _ (blk_lt hS.1) (P.out.wh.ty hS.1 (by decide))).trans hS.1) ((m1.block _ (blk_lt hS.2) (P.out.wh.ty hS.2 (by decide))).trans hS.2)
                          have qC12 := (m1.block _ (blk_lt C12.out) (P.out.wh.ty C12.out (by decide))).trans C12.out
                          refine dk.step_app_run rfl (.tmp 56) (.tmp 59) 50 rfl rfl rfl rfl r1 ?_
                          refine hK.out _ _ qS (fun hHeld => ?_)
                          clear hK K qS
                          try simp only [Act.put, List.setIfInBounds_toArray, List.set_cons_succ, List.set_cons_zero]
                          clear hS
                          have hS := hHeld
                          clear hHeld
                          clear P C7 C12 r1 s1 m1 o1
                          have P := Lib.hid qP
                          have C12 := Lib.hid qC12
                          clear qP qC12
                          refine wpAnyH_ready (rs := [13]) (by kernel_rfl) (by simp) ?_
                          refine' (AllReadyH.cons ?hoc13sx2x7x12x3x8 (fun K hK => ?stc13sx2x7x12x3x8) AllReadyH.nil)
                          case hoc13sx2x7x12x3x8 => (simp only [List.getElem?_toArray, List.getElem?_cons_succ, List.getElem?_cons_zero]; rfl)
                          obtain ⟨v13, Wqx2x7x12x3x8x13, r1, s1, m1, o1⟩ := push5 P.out.bs g12 (y : Int) C12.out (by have := HNE.out; omega)
                          have qP := P.out.addB AC.out.2.2.2 (ex.fst s.f 20, k5, y) s1 m1 o1
                          have qS := And.intro ((m1.block _ (blk_lt hS.1) (P.out.bs.ty hS.1 (by decide))).trans hS.1) ((m1.block _ (blk_lt hS.2) (P.out.bs.ty hS.2 (by decide))).trans hS.2)
                          refine dk.step_app_run rfl (.tmp 61) (.tmp 64) 37 rfl rfl rfl rfl r1 ?_
                          refine hK.out _ _ qS (fun hHeld => ?_)
                          clear hK K qS
                          try simp only [Act.put, List.setIfInBounds_toArray, List.set_cons_succ, List.set_cons_zero]
                          clear hS
                          have hS := hHeld
                          clear hHeld
                          clear P C12 r1 s1 m1 o1
                          have P := Lib.hid qP
                          clear qP 
                          refine' wpAnyH_take (i := 14) ?h1x14sx2x7x12x3x8x13 ?hsx14sx2x7x12x3x8x13 ?hfx14sx2x7x12x3x8x13 ?hrx14sx2x7x12x3x8x13 ?hQx14sx2x7x12x3x8x13 (Or.inl ⟨?hwx14sx2x7x12x3x8x13, ?hyx14sx2x7x12x3x8x13⟩) hS ?restx14sx2x7x12x3x8x13
                          case h1x14sx2x7x12x3x8x13 => (simp only [List.getElem?_toArray, List.getElem?_cons_succ, List.getElem?_cons_zero]; rfl)
                          case hsx14sx2x7x12x3x8x13 | hfx14sx2x7x12x3x8x13 | hrx14sx2x7x12x3x8x13 => kernel_rfl
                          case hQx14sx2x7x12x3x8x13 => exact fun _ _ _ h => h
                          case hwx14sx2x7x12x3x8x13 => rfl
                          case hyx14sx2x7x12x3x8x13 =>
                            intro W hW
                            go_simp
                            try with_reducible rfl
                          simp only [Act.put, List.setIfInBounds_toArray, List.set_cons_succ, List.set_cons_zero]
                          refine' wpAnyH_take (i := 15) ?h1x15sx2x7x12x3x8x13 ?hsx15sx2x7x12x3x8x13 ?hfx15sx2x7x12x3x8x13 ?hrx15sx2x7x12x3x8x13 ?hQx15sx2x7x12x3x8x13 (Or.inl ⟨?hwx15sx2x7x12x3x8x13, ?hyx15sx2x7x12x3x8x13⟩) hS ?restx15sx2x7x12x3x8x13
                          case h1x15sx2x7x12x3x8x13 => (simp only [List.getElem?_toArray, List.getElem?_cons_succ, List.getElem?_cons_zero]; rfl)
                          case hsx15sx2x7x12x3x8x13 | hfx15sx2x7x12x3x8x13 | hrx15sx2x7x12x3x8x13 => kernel_rfl
                          case hQx15sx2x7x12x3x8x13 => exact fun _ _ _ h => h
                          case hwx15sx2x7x12x3x8x13 => rfl
                          case hyx15sx2x7x12x3x8x13 =>
                            intro W hW
                            go_simp
                            try with_reducible rfl
                          simp only [Act.put, List.setIfInBounds_toArray, List.set_cons_succ, List.set_cons_zero]
                          refine' wpAnyH_take (i := 16) ?h1x16sx2x7x12x3x8x13 ?hsx16sx2x7x12x3x8x13 ?hfx16sx2x7x12x3x8x13 ?hrx16sx2x7x12x3x8x13 ?hQx16sx2x7x12x3x8x13 (Or.inl ⟨?hwx16sx2x7x12x3x8x13, ?hyx16sx2x7x12x3x8x13⟩) hS ?restx16sx2x7x12x3x8x13
                          case h1x16sx2x7x12x3x8x13 => (simp only [List.getElem?_toArray, List.getElem?_cons_succ, List.getElem?_cons_zero]; rfl)
                          case hsx16sx2x7x12x3x8x13 | hfx16sx2x7x12x3x8x13 | hrx16sx2x7x12x3x8x13 => kernel_rfl
                          case hQx16sx2x7x12x3x8x13 => exact fun _ _ _ h => h
                          case hwx16sx2x7x12x3x8x13 => rfl
                          case hyx16sx2x7x12x3x8x13 =>
                            intro W hW
                            go_simp
                            try with_reducible rfl
                          simp only [Act.put, List.setIfInBounds_toArray, List.set_cons_succ, List.set_cons_zero]
                          refine wpAnyH_done (by kernel_rfl) ?_ _
                          go_wp2_with fail
                          go_meet
                          exact ⟨_, D5, s5, S5, T5, P.out.whole, hS.1, P.out.los.1, NSQ5.out⟩
                      case stc12sx2 =>
                        have hb : Below Wbx2.heap.size Wbx2 (Wbx2.alloc (.cells #[.int .u8 (y : Int)] 5)) := (Below.refl _ _).alloc (Nat.le_refl _) _
                        have qS := And.intro ((hb.block _ (blk_lt hS.1)).trans hS.1) ((hb.block _ (blk_lt hS.2)).trans hS.2)
                        have qP := P.out.below hb
                        have qC12 := heap_alloc_new Wbx2 (.cells #[.int .u8 (y : Int)] 5)
                        have qC2 := (hb.block _ (blk_lt C2.out)).trans C2.out
                        refine step_bs1 rfl 37 1 (.tmp 63) rfl rfl (bs37 (y : Int) Wbx2) ?_
                        refine hK.out _ _ qS (fun hHeld => ?_)
                        clear hK K qS
                        try simp only [Act.put, List.setIfInBounds_toArray, List.set_cons_succ, List.set_cons_zero]
                        clear hS
                        have hS := hHeld
                        clear hHeld
                        clear hb P C2
                        generalize Wbx2.alloc (.cells #[.int .u8 (y : Int)] 5) = Wbx2x12 at *
                        generalize Wbx2.heap.size = g12 at *
                        have P := Lib.hid qP
                        have C2 := Lib.hid qC2
                        have C12 := Lib.hid qC12
                        clear qP qC2 qC12
                        refine wpAnyH_ready (rs := [3, 7]) (by kernel_rfl) (by simp) ?_
                        refine' (AllReadyH.cons ?hoc3sx2x12 (fun K hK => ?stc3sx2x12) (AllReadyH.cons ?hoc7sx2x12 (fun K hK => ?stc7sx2x12) AllReadyH.nil))
                        case hoc3sx2x12 => (simp only [List.getElem?_toArray, List.getElem?_cons_succ, List.getElem?_cons_zero]; rfl)
                        case hoc7sx2x12 => (simp only [List.getElem?_toArray, List.getElem?_cons_succ, List.getElem?_cons_zero]; rfl)
                        case stc3sx2x12 =>
                          obtain ⟨v3, Wqx2x12x3, r1, s1, m1, o1⟩ := push26 P.out.l g2 Cl HL33.out HO33.out C2.out (by have := HNE.out; omega)
                          have qP := P.out.addL3 AC.out.2.2.2 (ex.fst s.f 20) k5 y Cl HCL.out s1 m1 o1
                          have qS := And.intro ((m1.block _ (blk_lt hS.1) (P.out.l.ty hS.1 (by decide))).trans hS.1) ((m1.block _ (blk_lt hS.2) NV.out).trans hS.2)
                          have qC12 := (m1.block _ (blk_lt C12.out) (P.out.l.ty C12.out (by decide))).trans C12.out
                          refine dk.step_app_run rfl (.tmp 52) (.tmp 54) 49 rfl rfl rfl rfl r1 ?_
                          refine hK.out _ _ qS (fun hHeld => ?_)
                          clear hK K qS
                          try simp only [Act.put, List.setIfInBounds_toArray, List.set_cons_succ, List.set_cons_zero]
                          clear hS
                          have hS := hHeld
                          clear hHeld
                          clear P C2 C12 r1 s1 m1 o1
                          have P := Lib.hid qP
                          have C12 := Lib.hid qC12
                          clear qP qC12
                          refine wpAnyH_ready (rs := [7]) (by kernel_rfl) (by simp) ?_
                          refine' (AllReadyH.cons ?hoc7sx2x12x3 (fun K hK => ?stc7sx2x12x3) AllReadyH.nil)
                          case hoc7sx2x12x3 => (simp only [List.getElem?_toArray, List.getElem?_cons_succ, List.getElem?_cons_zero]; rfl)
                          have hb : Below Wqx2x12x3.heap.size Wqx2x12x3 (Wqx2x12x3.alloc (.cells #[.int .i64 t'] 3)) := (Below.refl _ _).alloc (Nat.le_refl _) _
                          have qS := And.intro ((hb.block _ (blk_lt hS.1)).trans hS.1) ((hb.block _ (blk_lt hS.2)).trans hS.2)
                          have qP := P.out.below hb
                          have qC7 := heap_alloc_new Wqx2x12x3 (.cells #[.int .i64 t'] 3)
                          have qC12 := (hb.block _ (blk_lt C12.out)).trans C12.out
                          refine step_bs1 rfl 50 1 (.tmp 58) rfl rfl (bs50 t' Wqx2x12x3) ?_
                          refine hK.out _ _ qS (fun hHeld => ?_)
                          clear hK K qS
                          try simp only [Act.put, List.setIfInBounds_toArray, List.set_cons_succ, List.set_cons_zero]
                          clear hS
                          have hS := hHeld
                          clear hHeld
                          clear hb P C12
                          generalize Wqx2x12x3.alloc (.cells #[.int .i64 t'] 3) = Wbx2x12x3x7 at *
                          generalize Wqx2x12x3.heap.size = g7 at *
                          have P := Lib.hid qP
                          have C12 := Lib.hid qC12
                          have C7 := Lib.hid qC7
                          clear qP qC12 qC7
                          refine wpAnyH_ready (rs := [8]) (by kernel_rfl) (by simp) ?_
                          refine' (AllReadyH.cons ?hoc8sx2x12x3x7 (fun K hK => ?stc8sx2x12x3x7) AllReadyH.nil)
                          case hoc8sx2x12x3x7 => (simp only [List.getElem?_toArray, List.getElem?_cons_succ, List.getElem?_cons_zero]; rfl)
                          obtain ⟨v8, Wqx2x12x3x7x8, r1, s1, m1, o1⟩ := push3 P.out.wh g7 t' C7.out (by have := HNE.out; omega)
                          have qP := P.out.addW3 AC.out.2.2.2 (ex.fst s.f 20) k5 y t' K5.out s1 m1 o1
                          have qS := And.intro ((m1.block _ (blk_lt hS.1) (P.out.wh.ty hS.1 (by decide))).trans hS.1) ((m1.block _ (blk_lt hS.2) (P.out.wh.ty hS.2 (by decide))).trans hS.2)
                          have qC12 := (m1.block _ (blk_lt C12.out) (P.out.wh.ty C12.out (by decide))).trans C12.out
                          refine dk.step_app_run rfl (.tmp 56) (.tmp 59) 50 rfl rfl rfl rfl r1 ?_
                          refine hK.out _ _ qS (fun hHeld => ?_)
                          clear hK K qS
                          try simp only [Act.put, List.setIfInBounds_toArray, List.set_cons_succ, List.set_cons_zero]
                          clear hS
                          have hS := hHeld
                          clear hHeld
                          clear P C12 C7 r1 s1 m1 o1
                          have P := Lib.hid qP
                          have C12 := Lib.hid qC12
                          clear qP qC12
                          refine wpAnyH_ready (rs := [13]) (by kernel_rfl) (by simp) ?_
                          refine' (AllReadyH.cons ?hoc13sx2x12x3x7x8 (fun K hK => ?stc13sx2x12x3x7x8) AllReadyH.nil)
                          case hoc13sx2x12x3x7x8 => (simp only [List.getElem?_toArray, List.getElem?_cons_succ, List.getElem?_cons_zero]; rfl)
                          obtain ⟨v13, Wqx2x12x3x7x8x13, r1, s1, m1, o1⟩ := push5 P.out.bs g12 (y : Int) C12.out (by have := HNE.out; omega)
                          have qP := P.out.addB AC.out.2.2.2 (ex.fst s.f 20, k5, y) s1 m1 o1
                          have qS := And.intro ((m1.block _ (blk_lt hS.1) (P.out.bs.ty hS.1 (by decide))).trans hS.1) ((m1.block _ (blk_lt hS.2) (P.out.bs.ty hS.2 (by decide))).trans hS.2)
                          refine dk.step_app_run rfl (.tmp 61) (.tmp 64) 37 rfl rfl rfl rfl r1 ?_
                          refine hK.out _ _ qS (fun hHeld => ?_)
                          clear hK K qS
                          try simp only [Act.put, List.setIfInBounds_toArray, List.set_cons_succ, List.set_cons_zero]
                          clear hS
                          have hS := hHeld
                          clear hHeld
                          clear P C12 r1 s1 m1 o1
                          have P := Lib.hid qP
                          clear qP 
                          refine' wpAnyH_take (i := 14) ?h1x14sx2x12x3x7x8x13 ?hsx14sx2x12x3x7x8x13 ?hfx14sx2x12x3x7x8x13 ?hrx14sx2x12x3x7x8x13 ?hQx14sx2x12x3x7x8x13 (Or.inl ⟨?hwx14sx2x12x3x7x8x13, ?hyx14sx2x12x3x7x8x13⟩) hS ?restx14sx2x12x3x7x8x13
                          case h1x14sx2x12x3x7x8x13 => (simp only [List.getElem?_toArray, List.getElem?_cons_succ, List.getElem?_cons_zero]; rfl)
                          case hsx14sx2x12x3x7x8x13 | hfx14sx2x12x3x7x8x13 | hrx14sx2x12x3x7x8x13 => kernel_rfl
                          case hQx14sx2x12x3x7x8x13 => exact fun _ _ _ h => h
                          case hwx14sx2x12x3x7x8x13 => rfl
                          case hyx14sx2x12x3x7x8x13 =>
                            intro W hW
                            go_simp
                            try with_reducible rfl
                          simp only [Act.put, List.setIfInBounds_toArray, List.set_cons_succ, List.set_cons_zero]
                          refine' wpAnyH_take (i := 15) ?h1x15sx2x12x3x7x8x13 ?hsx15sx2x12x3x7x8x13 ?hfx15sx2x12x3x7x8x13 ?hrx15sx2x12x3x7x8x13 ?hQx15sx2x12x3x7x8x13 (Or.inl ⟨?hwx15sx2x12x3x7x8x13, ?hyx15sx2x12x3x7x8x13⟩) hS ?restx15sx2x12x3x7x8x13
                          case h1x15sx2x12x3x7x8x13 => (simp only [List.getElem?_toArray, List.getElem?_cons_succ, List.getElem?_cons_zero]; rfl)
                          case hsx15sx2x12x3x7x8x13 | hfx15sx2x12x3x7x8x13 | hrx15sx2x12x3x7x8x13 => kernel_rfl
                          case hQx15sx2x12x3x7x8x13 => exact fun _ _ _ h => h
                          case hwx15sx2x12x3x7x8x13 => rfl
                          case hyx15sx2x12x3x7x8x13 =>
                            intro W hW
                            go_simp
                            try with_reducible rfl
                          simp only [Act.put, List.setIfInBounds_toArray, List.set_cons_succ, List.set_cons_zero]
                          refine' wpAnyH_take (i := 16) ?h1x16sx2x12x3x7x8x13 ?hsx16sx2x12x3x7x8x13 ?hfx16sx2x12x3x7x8x13 ?hrx16sx2x12x3x7x8x13 ?hQx16sx2x12x3x7x8x13 (Or.inl ⟨?hwx16sx2x12x3x7x8x13, ?hyx16sx2x12x3x7x8x13⟩) hS ?restx16sx2x12x3x7x8x13
                          case h1x16sx2x12x3x7x8x13 => (simp only [List.getElem?_toArray, List.getElem?_cons_succ, List.getElem?_cons_zero]; rfl)
                          case hsx16sx2x12x3x7x8x13 | hfx16sx2x12x3x7x8x13 | hrx16sx2x12x3x7x8x13 => kernel_rfl
                          case hQx16sx2x12x3x7x8x13 => exact fun _ _ _ h => h
                          case hwx16sx2x12x3x7x8x13 => rfl
                          case hyx16sx2x12x3x7x8x13 =>
                            intro W hW
                            go_simp
                            try with_reducible rfl
                          simp only [Act.put, List.setIfInBounds_toArray, List.set_cons_succ, List.set_cons_zero]
                          refine wpAnyH_done (by kernel_rfl) ?_ _
                          go_wp2_with fail
                          go_meet
                          exact ⟨_, D5, s5, S5, T5, P.out.whole, hS.1, P.out.los.1, NSQ5.out⟩
                        case stc7sx2x12 =>
                          have hb : Below Wbx2x12.heap.size Wbx2x12 (Wbx2x12.alloc (.cells #[.int .i64 t'] 3)) := (Below.refl _ _).alloc (Nat.le_refl _) _
                          have qS := And.intro ((hb.block _ (blk_lt hS.1)).trans hS.1) ((hb.block _ (blk_lt hS.2)).trans hS.2)
                          have qP := P.out.below hb
                          have qC7 := heap_alloc_new Wbx2x12 (.cells #[.int .i64 t'] 3)
                          have qC2 := (hb.block _ (blk_lt C2.out)).trans C2.out
                          have qC12 := (hb.block _ (blk_lt C12.out)).trans C12.out
                          refine step_bs1 rfl 50 1 (.tmp 58) rfl rfl (bs50 t' Wbx2x12) ?_
                          refine hK.out _ _ qS (fun hHeld => ?_)
                          clear hK K qS
                          try simp only [Act.put, List.setIfInBounds_toArray, List.set_cons_succ, List.set_cons_zero]
                          clear hS
                          have hS := hHeld
                          clear hHeld
                          clear hb P C2 C12
                          generalize Wbx2x12.alloc (.cells #[.int .i64 t'] 3) = Wbx2x12x7 at *
                          generalize Wbx2x12.heap.size = g7 at *
                          have P := Lib.hid qP
                          have C2 := Lib.hid qC2
                          have C12 := Lib.hid qC12
                          have C7 := Lib.hid qC7
                          clear qP qC2 qC12 qC7
                          refine wpAnyH_ready (rs := [3]) (by kernel_rfl) (by simp) ?_
                          refine' (AllReadyH.cons ?hoc3sx2x12x7 (fun K hK => ?stc3sx2x12x7) AllReadyH.nil)
                          case hoc3sx2x12x7 => (simp only [List.getElem?_toArray, List.getElem?_cons_succ, List.getElem?_cons_zero]; rfl)
                          obtain ⟨v3, Wqx2x12x7x3, r1, s1, m1, o1⟩ := push26 P.out.l g2 Cl HL33.out HO33.out C2.out (by have := HNE.out; omega)
                          have qP := P.out.addL3 AC.out.2.2.2 (ex.fst s.f 20) k5 y Cl HCL.out s1 m1 o1
                          have qS := And.intro ((m1.block _ (blk_lt hS.1) (P.out.l.ty hS.1 (by decide))).trans hS.1) ((m1.block _ (blk_lt hS.2) NV.out).trans hS.2)
                          have qC12 := (m1.block _ (blk_lt C12.out) (P.out.l.ty C12.out (by decide))).trans C12.out
                          have qC7 := (m1.block _ (blk_lt C7.out) (P.out.l.ty C7.out (by decide))).trans C7.out
                          refine dk.step_app_run rfl (.tmp 52) (.tmp 54) 49 rfl rfl rfl rfl r1 ?_
                          refine hK.out _ _ qS (fun hHeld => ?_)
                          clear hK K qS
                          try simp only [Act.put, List.setIfInBounds_toArray, List.set_cons_succ, List.set_cons_zero]
                          clear hS
                          have hS := hHeld
                          clear hHeld
                          clear P C2 C12 C7 r1 s1 m1 o1
                          have P := Lib.hid qP
                          have C12 := Lib.hid qC12
                          have C7 := Lib.hid qC7
                          clear qP qC12 qC7
                          refine wpAnyH_ready (rs := [8]) (by kernel_rfl) (by simp) ?_
                          refine' (AllReadyH.cons ?hoc8sx2x12x7x3 (fun K hK => ?stc8sx2x12x7x3) AllReadyH.nil)
                          case hoc8sx2x12x7x3 => (simp only [List.getElem?_toArray, List.getElem?_cons_succ, List.getElem?_cons_zero]; rfl)
                          obtain ⟨v8, Wqx2x12x7x3x8, r1, s1, m1, o1⟩ := push3 P.out.wh g7 t' C7.out (by have := HNE.out; omega)
                          have qP := P.out.addW3 AC.out.2.2.2 (ex.fst s.f 20) k5 y t' K5.out s1 m1 o1
                          have qS := And.intro ((m1.block _ (blk_lt hS.1) (P.out.wh.ty hS.1 (by decide))).trans hS.1) ((m1.block _ (blk_lt hS.2) (P.out.wh.ty hS.2 (by decide))).trans hS.2)
                          have qC12 := (m1.block _ (blk_lt C12.out) (P.out.wh.ty C12.out (by decide))).trans C12.out
                          refine dk.step_app_run rfl (.tmp 56) (.tmp 59) 50 rfl rfl rfl rfl r1 ?_
                          refine hK.out _ _ qS (fun hHeld => ?_)
                          clear hK K qS
                          try simp only [Act.put, List.setIfInBounds_toArray, List.set_cons_succ, List.set_cons_zero]
                          clear hS
                          have hS := hHeld
                          clear hHeld
                          clear P C12 C7 r1 s1 m1 o1
                          have P := Lib.hid qP
                          have C12 := Lib.hid qC12
                          clear qP qC12
                          refine wpAnyH_ready (rs := [13]) (by kernel_rfl) (by simp) ?_
                          refine' (AllReadyH.cons ?hoc13sx2x12x7x3x8 (fun K hK => ?stc13sx2x12x7x3x8) AllReadyH.nil)
                          case hoc13sx2x12x7x3x8 => (simp only [List.getElem?_toArray, List.getElem?_cons_succ, List.getElem?_cons_zero]; rfl)
                          obtain ⟨v13, Wqx2x12x7x3x8x13, r1, s1, m1, o1⟩ := push5 P.out.bs g12 (y : Int) C12.out (by have := HNE.out; omega)
                          have qP := P.out.addB AC.out.2.2.2 (ex.fst s.f 20, k5, y) s1 m1 o1
                          have qS := And.intro ((m1.block _ (blk_lt hS.1) (P.out.bs.ty hS.1 (by decide))).trans hS.1) ((m1.block _ (blk_lt hS.2) (P.out.bs.ty hS.2 (by decide))).trans hS.2)
                          refine dk.step_app_run rfl (.tmp 61) (.tmp 64) 37 rfl rfl rfl rfl r1 ?_
                          refine hK.out _ _ qS (fun hHeld => ?_)
                          clear hK K qS
                          try simp only [Act.put, List.setIfInBounds_toArray, List.set_cons_succ, List.set_cons_zero]
                          clear hS
                          have hS := hHeld
                          clear hHeld
                          clear P C12 r1 s1 m1 o1
                          have P := Lib.hid qP
                          clear qP 
                          refine' wpAnyH_take (i := 14) ?h1x14sx2x12x7x3x8x13 ?hsx14sx2x12x7x3x8x13 ?hfx14sx2x12x7x3x8x13 ?hrx14sx2x12x7x3x8x13 ?hQx14sx2x12x7x3x8x13 (Or.inl ⟨?hwx14sx2x12x7x3x8x13, ?hyx14sx2x12x7x3x8x13⟩) hS ?restx14sx2x12x7x3x8x13
                          case h1x14sx2x12x7x3x8x13 => (simp only [List.getElem?_toArray, List.getElem?_cons_succ, List.getElem?_cons_zero]; rfl)
                          case hsx14sx2x12x7x3x8x13 | hfx14sx2x12x7x3x8x13 | hrx14sx2x12x7x3x8x13 => kernel_rfl
                          case hQx14sx2x12x7x3x8x13 => exact fun _ _ _ h => h
                          case hwx14sx2x12x7x3x8x13 => rfl
                          case hyx14sx2x12x7x3x8x13 =>
                            intro W hW
                            go_simp
                            try with_reducible rfl
                          simp only [Act.put, List.setIfInBounds_toArray, List.set_cons_succ, List.set_cons_zero]
                          refine' wpAnyH_take (i := 15) ?h1x15sx2x12x7x3x8x13 ?hsx15sx2x12x7x3x8x13 ?hfx15sx2x12x7x3x8x13 ?hrx15sx2x12x7x3x8x13 ?hQx15sx2x12x7x3x8x13 (Or.inl ⟨?hwx15sx2x12x7x3x8x13, ?hyx15sx2x12x7x3x8x13⟩) hS ?restx15sx2x12x7x3x8x13
                          case h1x15sx2x12x7x3x8x13 => (simp only [List.getElem?_toArray, List.getElem?_cons_succ, List.getElem?_cons_zero]; rfl)
                          case hsx15sx2x12x7x3x8x13 | hfx15sx2x12x7x3x8x13 | hrx15sx2x12x7x3x8x13 => kernel_rfl
                          case hQx15sx2x12x7x3x8x13 => exact fun _ _ _ h => h
                          case hwx15sx2x12x7x3x8x13 => rfl
                          case hyx15sx2x12x7x3x8x13 =>
                            intro W hW
                            go_simp
                            try with_reducible rfl
                          simp only [Act.put, List.setIfInBounds_toArray, List.set_cons_succ, List.set_cons_zero]
                          refine' wpAnyH_take (i := 16) ?h1x16sx2x12x7x3x8x13 ?hsx16sx2x12x7x3x8x13 ?hfx16sx2x12x7x3x8x13 ?hrx16sx2x12x7x3x8x13 ?hQx16sx2x12x7x3x8x13 (Or.inl ⟨?hwx16sx2x12x7x3x8x13, ?hyx16sx2x12x7x3x8x13⟩) hS ?restx16sx2x12x7x3x8x13
                          case h1x16sx2x12x7x3x8x13 => (simp only [List.getElem?_toArray, List.getElem?_cons_succ, List.getElem?_cons_zero]; rfl)
                          case hsx16sx2x12x7x3x8x13 | hfx16sx2x12x7x3x8x13 | hrx16sx2x12x7x3x8x13 => kernel_rfl
                          case hQx16sx2x12x7x3x8x13 => exact fun _ _ _ h => h
                          case hwx16sx2x12x7x3x8x13 => rfl
                          case hyx16sx2x12x7x3x8x13 =>
                            intro W hW
                            go_simp
                            try with_reducible rfl
                          simp only [Act.put, List.setIfInBounds_toArray, List.set_cons_succ, List.set_cons_zero]
                          refine wpAnyH_done (by kernel_rfl) ?_ _
                          go_wp2_with fail
                          go_meet
                          exact ⟨_, D5, s5, S5, T5, P.out.whole, hS.1, P.out.los.1, NSQ5.out⟩
                    case stc7s =>
                      have hb : Below Wr14.heap.size Wr14 (Wr14.alloc (.cells #[.int .i64 t'] 3)) := (Below.refl _ _).alloc (Nat.le_refl _) _
                      have qS := And.intro ((hb.block _ (blk_lt hS.1)).trans hS.1) ((hb.block _ (blk_lt hS.2)).trans hS.2)
                      have qP := P.out.below hb
                      have qC7 := heap_alloc_new Wr14 (.cells #[.int .i64 t'] 3)
                      refine step_bs1 rfl 50 1 (.tmp 58) rfl rfl (bs50 t' Wr14) ?_
                      refine hK.out _ _ qS (fun hHeld => ?_)
                      clear hK K qS
                      try simp only [Act.put, List.setIfInBounds_toArray, List.set_cons_succ, List.set_cons_zero]
                      clear hS
                      have hS := hHeld
                      clear hHeld
                      clear hb P 
                      generalize Wr14.alloc (.cells #[.int .i64 t'] 3) = Wbx7 at *
                      generalize Wr14.heap.size = g7 at *
                      have P := Lib.hid qP
                      have C7 := Lib.hid qC7
                      clear qP qC7
                      refine wpAnyH_ready (rs := [2, 12]) (by kernel_rfl) (by simp) ?_
                      refine' (AllReadyH.cons ?hoc2sx7 (fun K hK => ?stc2sx7) (AllReadyH.cons ?hoc12sx7 (fun K hK => ?stc12sx7) AllReadyH.nil))
                      case hoc2sx7 => (simp only [List.getElem?_toArray, List.getElem?_cons_succ, List.getElem?_cons_zero]; rfl)
                      case hoc12sx7 => (simp only [List.getElem?_toArray, List.getElem?_cons_succ, List.getElem?_cons_zero]; rfl)
                      case stc2sx7 =>
                        have hb : Below Wbx7.heap.size Wbx7 (Wbx7.alloc (.cells Cl.toArray 26)) := (Below.refl _ _).alloc (Nat.le_refl _) _
                        have qS := And.intro ((hb.block _ (blk_lt hS.1)).trans hS.1) ((hb.block _ (blk_lt hS.2)).trans hS.2)
                        have qP := P.out.below hb
                        have qC2 := heap_alloc_new Wbx7 (.cells Cl.toArray 26)
                        have qC7 := (hb.block _ (blk_lt C7.out)).trans C7.out
                        have nv : vl.ownBlock ≠ some Wbx7.heap.size := fun e => by have := P.out.l.lt _ e; omega
                        refine step_bs1 rfl 49 1 (.tmp 53) rfl rfl (by have := bs49 (ex.fst s.f 20) (hl.sha (bI y)) (hl.sha_len _ (bI_byt HY.out)) Wbx7; rw [← HCL.out] at this; exact this) ?_
                        refine hK.out _ _ qS (fun hHeld => ?_)
                        clear hK K qS
                        try simp only [Act.put, List.setIfInBounds_toArray, List.set_cons_succ, List.set_cons_zero]
                        clear hS
                        have hS := hHeld
                        clear hHeld
                        clear hb P C7
                        generalize Wbx7.alloc (.cells Cl.toArray 26) = Wbx7x2 at *
                        generalize Wbx7.heap.size = g2 at *
                        have P := Lib.hid qP
                        have C7 := Lib.hid qC7
                        have C2 := Lib.hid qC2
                        clear qP qC7 qC2
                        refine wpAnyH_ready (rs := [3, 12]) (by kernel_rfl) (by simp) ?_
                        refine' (AllReadyH.cons ?hoc3sx7x2 (fun K hK => ?stc3sx7x2) (AllReadyH.cons ?hoc12sx7x2 (fun K hK => ?stc12sx7x2) AllReadyH.nil))
                        case hoc3sx7x2 => (simp only [List.getElem?_toArray, List.getElem?_cons_succ, List.getElem?_cons_zero]; rfl)
                        case hoc12sx7x2 => (simp only [List.getElem?_toArray, List.getElem?_cons_succ, List.getElem?_cons_zero]; rfl)
                        case stc3sx7x2 =>
                          obtain ⟨v3, Wqx7x2x3, r1, s1, m1, o1⟩ := push26 P.out.l g2 Cl HL33.out HO33.out C2.out (by have := HNE.out; omega)
                          have qP := P.out.addL3 AC.out.2.2.2 (ex.fst s.f 20) k5 y Cl HCL.out s1 m1 o1
                          have qS := And.intro ((m1.block _ (blk_lt hS.1) (P.out.l.ty hS.1 (by decide))).trans hS.1) ((m1.block _ (blk_lt hS.2) NV.out).trans hS.2)
                          have qC7 := (m1.block _ (blk_lt C7.out) (P.out.l.ty C7.out (by decide))).trans C7.out
                          refine dk.step_app_run rfl (.tmp 52) (.tmp 54) 49 rfl rfl rfl rfl r1 ?_
                          refine hK.out _ _ qS (fun hHeld => ?_)
                          clear hK K qS
                          try simp only [Act.put, List.setIfInBounds_toArray, List.set_cons_succ, List.set_cons_zero]
                          clear hS
                          have hS := hHeld
                          clear hHeld
                          clear P C7 C2 r1 s1 m1 o1
                          have P := Lib.hid qP
                          have C7 := Lib.hid qC7
                          clear qP qC7
                          refine wpAnyH_ready (rs := [8, 12]) (by kernel_rfl) (by simp) ?_
                          refine' (AllReadyH.cons ?hoc8sx7x2x3 (fun K hK => ?stc8sx7x2x3) (AllReadyH.cons ?hoc12sx7x2x3 (fun K hK => ?stc12sx7x2x3) AllReadyH.nil))
                          case hoc8sx7x2x3 => (simp only [List.getElem?_toArray, List.getElem?_cons_succ, List.getElem?_cons_zero]; rfl)
                          case hoc12sx7x2x3 => (simp only [List.getElem?_toArray, List.getElem?_cons_succ, List.getElem?_cons_zero]; rfl)
                          case stc8sx7x2x3 =>
                            obtain ⟨v8, Wqx7x2x3x8, r1, s1, m1, o1⟩ := push3 P.out.wh g7 t' C7.out (by have := HNE.out; omega)
                            have qP := P.out.addW3 AC.out.2.2.2 (ex.fst s.f 20) k5 y t' K5.out s1 m1 o1
                            have qS := And.intro ((m1.block _ (blk_lt hS.1) (P.out.wh.ty hS.1 (by decide))).trans hS.1) ((m1.block _ (blk_lt hS.2) (P.out.wh.ty hS.2 (by decide))).trans hS.2)
                            refine dk.step_app_run rfl (.tmp 56) (.tmp 59) 50 rfl rfl rfl rfl r1 ?_
                            refine hK.out _ _ qS (fun hHeld => ?_)
                            clear hK K qS
                            try simp only [Act.put, List.setIfInBounds_toArray, List.set_cons_succ, List.set_cons_zero]
                            clear hS
                            have hS := hHeld
                            clear hHeld
                            clear P C7 r1 s1 m1 o1
                            have P := Lib.hid qP
                            clear qP 
                            refine wpAnyH_ready (rs := [12]) (by kernel_rfl) (by simp) ?_
                            refine' (AllReadyH.cons ?hoc12sx7x2x3x8 (fun K hK => ?stc12sx7x2x3x8) AllReadyH.nil)
                            case hoc12sx7x2x3x8 => (simp only [List.getElem?_toArray, List.getElem?_cons_succ, List.getElem?_cons_zero]; rfl)
                            have hb : Below Wqx7x2x3x8.heap.size Wqx7x2x3x8 (Wqx7x2x3x8.alloc (.cells #[.int .u8 (y : Int)] 5)) := (Below.refl _ _).alloc (Nat.le_refl _) _
                            have qS := And.intro ((hb.block _ (blk_lt hS.1)).trans hS.1) ((hb.block _ (blk_lt hS.2)).trans hS.2)
                            have qP := P.out.below hb
                            have qC12 := heap_alloc_new Wqx7x2x3x8 (.cells #[.int .u8 (y : Int)] 5)
                            refine step_bs1 rfl 37 1 (.tmp 63) rfl rfl (bs37 (y : Int) Wqx7x2x3x8) ?_
                            refine hK.out _ _ qS (fun hHeld => ?_)
                            clear hK K qS
                            try simp only [Act.put, List.setIfInBounds_toArray, List.set_cons_succ, List.set_cons_zero]
                            clear hS
                            have hS := hHeld
                            clear hHeld
                            clear hb P 
                            generalize Wqx7x2x3x8.alloc (.cells #[.int .u8 (y : Int)] 5) = Wbx7x2x3x8x12 at *
                            generalize Wqx7x2x3x8.heap.size = g12 at *
                            have P := Lib.hid qP
                            have C12 := Lib.hid qC12
                            clear qP qC12
                            refine wpAnyH_ready (rs := [13]) (by kernel_rfl) (by simp) ?_
                            refine' (AllReadyH.cons ?hoc13sx7x2x3x8x12 (fun K hK => ?stc13sx7x2x3x8x12) AllReadyH.nil)
                            case hoc13sx7x2x3x8x12 => (simp only [List.getElem?_toArray, List.getElem?_cons_succ, List.getElem?_cons_zero]; rfl)
                            obtain ⟨v13, Wqx7x2x3x8x12x13, r1, s1, m1, o1⟩ := push5 P.out.bs g12 (y : Int) C12.out (by have := HNE.out; omega)
                            have qP := P.out.addB AC.out.2.2.2 (ex.fst s.f 20, k5, y) s1 m1 o1
                            have qS := And.intro ((m1.block _ (blk_lt hS.1) (P.out.bs.ty hS.1 (by decide))).trans hS.1) ((m1.block _ (blk_lt hS.2) (P.out.bs.ty hS.2 (by decide))).trans hS.2)
                            refine dk.step_app_run rfl (.tmp 61) (.tmp 64) 37 rfl rfl rfl rfl r1 ?_
                            refine hK.out _ _ qS (fun hHeld => ?_)
                            clear hK K qS
                            try simp only [Act.put, List.setIfInBounds_toArray, List.set_cons_succ, List.set_cons_zero]
                            clear hS
                            have hS := hHeld
                            clear hHeld
                            clear P C12 r1 s1 m1 o1
                            have P := Lib.hid qP
                            clear qP 
                            refine' wpAnyH_take (i := 14) ?h1x14sx7x2x3x8x12x13 ?hsx14sx7x2x3x8x12x13 ?hfx14sx7x2x3x8x12x13 ?hrx14sx7x2x3x8x12x13 ?hQx14sx7x2x3x8x12x13 (Or.inl ⟨?hwx14sx7x2x3x8x12x13, ?hyx14sx7x2x3x8x12x13⟩) hS ?restx14sx7x2x3x8x12x13
                            case h1x14sx7x2x3x8x12x13 => (simp only [List.getElem?_toArray, List.getElem?_cons_succ, List.getElem?_cons_zero]; rfl)
                            case hsx14sx7x2x3x8x12x13 | hfx14sx7x2x3x8x12x13 | hrx14sx7x2x3x8x12x13 => kernel_rfl
                            case hQx14sx7x2x3x8x12x13 => exact fun _ _ _ h => h
                            case hwx14sx7x2x3x8x12x13 => rfl
                            case hyx14sx7x2x3x8x12x13 =>
                              intro W hW
                              go_simp
                              try with_reducible rfl
                            simp only [Act.put, List.setIfInBounds_toArray, List.set_cons_succ, List.set_cons_zero]
                            refine' wpAnyH_take (i := 15) ?h1x15sx7x2x3x8x12x13 ?hsx15sx7x2x3x8x12x13 ?hfx15sx7x2x3x8x12x13 ?hrx15sx7x2x3x8x12x13 ?hQx15sx7x2x3x8x12x13 (Or.inl ⟨?hwx15sx7x2x3x8x12x13, ?hyx15sx7x2x3x8x12x13⟩) hS ?restx15sx7x2x3x8x12x13
                            case h1x15sx7x2x3x8x12x13 => (simp only [List.getElem?_toArray, List.getElem?_cons_succ, List.getElem?_cons_zero]; rfl)
                            case hsx15sx7x2x3x8x12x13 | hfx15sx7x2x3x8x12x13 | hrx15sx7x2x3x8x12x13 => kernel_rfl
                            case hQx15sx7x2x3x8x12x13 => exact fun _ _ _ h => h
                            case hwx15sx7x2x3x8x12x13 => rfl
                            case hyx15sx7x2x3x8x12x13 =>
                              intro W hW
                              go_simp
                              try with_reducible rfl
                            simp only [Act.put, List.setIfInBounds_toArray, List.set_cons_succ, List.set_cons_zero]
                            refine' wpAnyH_take (i := 16) ?h1x16sx7x2x3x8x12x13 ?hsx16sx7x2x3x8x12x13 ?hfx16sx7x2x3x8x12x13 ?hrx16sx7x2x3x8x12x13 ?hQx16sx7x2x3x8x12x13 (Or.inl ⟨?hwx16sx7x2x3x8x12x13, ?hyx16sx7x2x3x8x12x13⟩) hS ?restx16sx7x2x3x8x12x13
                            case h1x16sx7x2x3x8x12x13 => (simp only [List.getElem?_toArray, List.getElem?_cons_succ, List.getElem?_cons_zero]; rfl)
                            case hsx16sx7x2x3x8x12x13 | hfx16sx7x2x3x8x12x13 | hrx16sx7x2x3x8x12x13 => kernel_rfl
                            case hQx16sx7x2x3x8x12x13 => exact fun _ _ _ h => h
                            case hwx16sx7x2x3x8x12x13 => rfl
                            case hyx16sx7x2x3x8x12x13 =>
                              intro W hW
                              go_simp
                              try with_reducible rfl
                            simp only [Act.put, List.setIfInBounds_toArray, List.set_cons_succ, List.set_cons_zero]
                            refine wpAnyH_done (by kernel_rfl) ?_ _
                            go_wp2_with fail
                            go_meet
                            exact ⟨_, D5, s5, S5, T5, P.out.whole, hS.1, P.out.los.1, NSQ5.out⟩
                          case stc12sx7x2x3 =>
                            have hb : Below Wqx7x2x3.heap.size Wqx7x2x3 (Wqx7x2x3.alloc (.cells #[.int .u8 (y : Int)] 5)) := (Below.refl _ _).alloc (Nat.le_refl _) _
                            have qS := And.intro ((hb.block _ (blk_lt hS.1)).trans hS.1) ((hb.block _ (blk_lt hS.2)).trans hS.2)
                            have qP := P.out.below hb
                            have qC12 := heap_alloc_new Wqx7x2x3 (.cells #[.int .u8 (y : Int)] 5)
                            have qC7 := (hb.block _ (blk_lt C7.out)).trans C7.out
                            refine step_bs1 rfl 37 1 (.tmp 63) rfl rfl (bs37 (y : Int) Wqx7x2x3) ?_
                            refine hK.out _ _ qS (fun hHeld => ?_)
                            clear hK K qS
                            try simp only [Act.put, List.setIfInBounds_toArray, List.set_cons_succ, List.set_cons_zero]
                            clear hS
                            have hS := hHeld
                            clear hHeld
                            clear hb P C7
                            generalize Wqx7x2x3.alloc (.cells #[.int .u8 (y : Int)] 5) = Wbx7x2x3x12 at *
                            generalize Wqx7x2x3.heap.size = g12 at *
                            have P := Lib.hid qP
                            have C7 := Lib.hid qC7
                            have C12 := Lib.hid qC12
                            clear qP qC7 qC12
                            refine wpAnyH_ready (rs := [8]) (by kernel_rfl) (by simp) ?_
                            refine' (AllReadyH.cons ?hoc8sx7x2x3x12 (fun K hK => ?stc8sx7x2x3x12) AllReadyH.nil)
                            case hoc8sx7x2x3x12 => (simp only [List.getElem?_toArray, List.getElem?_cons_succ, List.getElem?_cons_zero]; rfl)
                            obtain ⟨v8, Wqx7x2x3x12x8, r1, s1, m1, o1⟩ := push3 P.out.wh g7 t' C7.out (by have := HNE.out; omega)
                            have qP := P.out.addW3 AC.out.2.2.2 (ex.fst s.f 20) k5 y t' K5.out s1 m1 o1
                            have qS := And.intro ((m1.block _ (blk_lt hS.1) (P.out.wh.ty hS.1 (by decide))).trans hS.1) ((m1.block _ (blk_lt hS.2) (P.out.wh.ty hS.2 (by decide))).trans hS.2)
                            have qC12 := (m1.block _ (blk_lt C12.out) (P.out.wh.ty C12.out (by decide))).trans C12.out
                            refine dk.step_app_run rfl (.tmp 56) (.tmp 59) 50 rfl rfl rfl rfl r1 ?_
                            refine hK.out _ _ qS (fun hHeld => ?_)
                            clear hK K qS
                            try simp only [Act.put, List.setIfInBounds_toArray, List.set_cons_succ, List.set_cons_zero]
                            clear hS
                            have hS := hHeld
                            clear hHeld
                            clear P C7 C12 r1 s1 m1 o1
                            have P := Lib.hid qP
                            have C12 := Lib.hid qC12
                            clear qP qC12
                            refine wpAnyH_ready (rs := [13]) (by kernel_rfl) (by simp) ?_
                            refine' (AllReadyH.cons ?hoc13sx7x2x3x12x8 (fun K hK => ?stc13sx7x2x3x12x8) AllReadyH.nil)
                            case hoc13sx7x2x3x12x8 => (simp only [List.getElem?_toArray, List.getElem?_cons_succ, List.getElem?_cons_zero]; rfl)
                            obtain ⟨v13, Wqx7x2x3x12x8x13, r1, s1, m1, o1⟩ := push5 P.out.bs g12 (y : Int) C12.out (by have := HNE.out; omega)
                            have qP := P.out.addB AC.out.2.2.2 (ex.fst s.f 20, k5, y) s1 m1 o1
                            have qS := And.intro ((m1.block _ (blk_lt hS.1) (P.out.bs.ty hS.1 (by decide))).trans hS.1) ((m1.block _ (blk_lt hS.2) (P.out.bs.ty hS.2 (by decide))).trans hS.2)
                            refine dk.step_app_run rfl (.tmp 61) (.tmp 64) 37 rfl rfl rfl rfl r1 ?_
                            refine hK.out _ _ qS (fun hHeld => ?_)
                            clear hK K qS
                            try simp only [Act.put, List.setIfInBounds_toArray, List.set_cons_succ, List.set_cons_zero]
                            clear hS
                            have hS := hHeld
                            clear hHeld
                            clear P C12 r1 s1 m1 o1
                            have P := Lib.hid qP
                            clear qP 
                            refine' wpAnyH_take (i := 14) ?h1x14sx7x2x3x12x8x13 ?hsx14sx7x2x3x12x8x13 ?hfx14sx7x2x3x12x8x13 ?hrx14sx7x2x3x12x8x13 ?hQx14sx7x2x3x12x8x13 (Or.inl ⟨?hwx14sx7x2x3x12x8x13, ?hyx14sx7x2x3x12x8x13⟩) hS ?restx14sx7x2x3x12x8x13
                            case h1x14sx7x2x3x12x8x13 => (simp only [List.getElem?_toArray, List.getElem?_cons_succ, List.getElem?_cons_zero]; rfl)
                            case hsx14sx7x2x3x12x8x13 | hfx14sx7x2x3x12x8x13 | hrx14sx7x2x3x12x8x13 => kernel_rfl
                            case hQx14sx7x2x3x12x8x13 => exact fun _ _ _ h => h
                            case hwx14sx7x2x3x12x8x13 => rfl
                            case hyx14sx7x2x3x12x8x13 =>
                              intro W hW
                              go_simp
                              try with_reducible rfl
                            simp only [Act.put, List.setIfInBounds_toArray, List.set_cons_succ, List.set_cons_zero]
                            refine' wpAnyH_take (i := 15) ?h1x15sx7x2x3x12x8x13 ?hsx15sx7x2x3x12x8x13 ?hfx15sx7x2x3x12x8x13 ?hrx15sx7x2x3x12x8x13 ?hQx15sx7x2x3x12x8x13 (Or.inl ⟨?hwx15sx7x2x3x12x8x13, ?hyx15sx7x2x3x12x8x13⟩) hS ?restx15sx7x2x3x12x8x13
                            case h1x15sx7x2x3x12x8x13 => (simp only [List.getElem?_toArray, List.getElem?_cons_succ, List.getElem?_cons_zero]; rfl)
                            case hsx15sx7x2x3x12x8x13 | hfx15sx7x2x3x12x8x13 | hrx15sx7x2x3x12x8x13 => kernel_rfl
                            case hQx15sx7x2x3x12x8x13 => exact fun _ _ _ h => h
                            case hwx15sx7x2x3x12x8x13 => rfl
                            case hyx15sx7x2x3x12x8x13 =>
                              intro W hW
                              go_simp
                              try with_reducible rfl
                            simp only [Act.put, List.setIfInBounds_toArray, List.set_cons_succ, List.set_cons_zero]
                            refine' wpAnyH_take (i := 16) ?h1x16sx7x2x3x12x8x13 ?hsx16sx7x2x3x12x8x13 ?hfx16sx7x2x3x12x8x13 ?hrx16sx7x2x3x12x8x13 ?hQx16sx7x2x3x12x8x13 (Or.inl ⟨?hwx16sx7x2x3x12x8x13, ?hyx16sx7x2x3x12x8x13⟩) hS ?restx16sx7x2x3x12x8x13
                            case h1x16sx7x2x3x12x8x13 => (simp only [List.getElem?_toArray, List.getElem?_cons_succ, List.getElem?_cons_zero]; rfl)
                            case hsx16sx7x2x3x12x8x13 | hfx16sx7x2x3x12x8x13 | hrx16sx7x2x3x12x8x13 => kernel_rfl
                            case hQx16sx7x2x3x12x8x13 => exact fun _ _ _ h => h
                            case hwx16sx7x2x3x12x8x13 => rfl
                            case hyx16sx7x2x3x12x8x13 =>
                              intro W hW
                              go_simp
                              try with_reducible rfl
                            simp only [Act.put, List.setIfInBounds_toArray, List.set_cons_succ, List.set_cons_zero]
                            refine wpAnyH_done (by kernel_rfl) ?_ _
                            go_wp2_with fail
                            go_meet
                            exact ⟨_, D5, s5, S5, T5, P.out.whole, hS.1, P.out.los.1, NSQ5.out⟩
                        case stc12sx7x2 =>
                          have hb : Below Wbx7x2.heap.size Wbx7x2 (Wbx7x2.alloc (.cells #[.int .u8 (y : Int)] 5)) := (Below.refl _ _).alloc (Nat.le_refl _) _
                          have qS := And.intro ((hb.block _ (blk_lt hS.1)).trans hS.1) ((hb.block _ (blk_lt hS.2)).trans hS.2)
                          have qP := P.out.below hb
                          have qC12 := heap_alloc_new Wbx7x2 (.cells #[.int .u8 (y : Int)] 5)
                          have qC7 := (hb.block _ (blk_lt C7.out)).trans C7.out
                          have qC2 := (hb.block _ (blk_lt C2.out)).trans C2.out
                          refine step_bs1 rfl 37 1 (.tmp 63) rfl rfl (bs37 (y : Int) Wbx7x2) ?_
                          refine hK.out _ _ qS (fun hHeld => ?_)
                          clear hK K qS
                          try simp only [Act.put, List.setIfInBounds_toArray, List.set_cons_succ, List.set_cons_zero]
                          clear hS
                          have hS := hHeld
                          clear hHeld
                          clear hb P C7 C2
                          generalize Wbx7x2.alloc (.cells #[.int .u8 (y : Int)] 5) = Wbx7x2x12 at *
                          generalize Wbx7x2.heap.size = g12 at *
                          have P := Lib.hid qP
                          have C7 := Lib.hid qC7
                          have C2 := Lib.hid qC2
                          have C12 := Lib.hid qC12
                          clear qP qC7 qC2 qC12
                          refine wpAnyH_ready (rs := [3]) (by kernel_rfl) (by simp) ?_
                          refine' (AllReadyH.cons ?hoc3sx7x2x12 (fun K hK => ?stc3sx7x2x12) AllReadyH.nil)
                          case hoc3sx7x2x12 => (simp only [List.getElem?_toArray, List.getElem?_cons_succ, List.getElem?_cons_zero]; rfl)
                          obtain ⟨v3, Wqx7x2x12x3, r1, s1, m1, o1⟩ := push26 P.out.l g2 Cl HL33.out HO33.out C2.out (by have := HNE.out; omega)
                          have qP := P.out.addL3 AC.out.2.2.2 (ex.fst s.f 20) k5 y Cl HCL.out s1 m1 o1
                          have qS := And.intro ((m1.block _ (blk_lt hS.1) (P.out.l.ty hS.1 (by decide))).trans hS.1) ((m1.block _ (blk_lt hS.2) NV.out).trans hS.2)
                          have qC7 := (m1.block _ (blk_lt C7.out) (P.out.l.ty C7.out (by decide))).trans C7.out
                          have qC12 := (m1.block _ (blk_lt C12.out) (P.out.l.ty C12.out (by decide))).trans C12.out
                          refine dk.step_app_run rfl (.tmp 52) (.tmp 54) 49 rfl rfl rfl rfl r1 ?_
                          refine hK.out _ _ qS (fun hHeld => ?_)
                          clear hK K qS
                          try simp only [Act.put, List.setIfInBounds_toArray, List.set_cons_succ, List.set_cons_zero]
                          clear hS
                          have hS := hHeld
                          clear hHeld
                          clear P C7 C2 C12 r1 s1 m1 o1
                          have P := Lib.hid qP
                          have C7 := Lib.hid qC7
                          have C12 := Lib.hid qC12
                          clear qP qC7 qC12
                          refine wpAnyH_ready (rs := [8]) (by kernel_rfl) (by simp) ?_
                          refine' (AllReadyH.cons ?hoc8sx7x2x12x3 (fun K hK => ?stc8sx7x2x12x3) AllReadyH.nil)
                          case hoc8sx7x2x12x3 => (simp only [List.getElem?_toArray, List.getElem?_cons_succ, List.getElem?_cons_zero]; rfl)
                          obtain ⟨v8, Wqx7x2x12x3x8, r1, s1, m1, o1⟩ := push3 P.out.wh g7 t' C7.out (by have := HNE.out; omega)
                          have qP := P.out.addW3 AC.out.2.2.2 (ex.fst s.f 20) k5 y t' K5.out s1 m1 o1
                          have qS := And.intro ((m1.block _ (blk_lt hS.1) (P.out.wh.ty hS.1 (by decide))).trans hS.1) ((m1.block _ (blk_lt hS.2) (P.out.wh.ty hS.2 (by decide))).trans hS.2)
                          have qC12 := (m1.block _ (blk_lt C12.out) (P.out.wh.ty C12.out (by decide))).trans C12.out
                          refine dk.step_app_run rfl (.tmp 56) (.tmp 59) 50 rfl rfl rfl rfl r1 ?_
                          refine hK.out _ _ qS (fun hHeld => ?_)
                          clear hK K qS
                          try simp only [Act.put, List.setIfInBounds_toArray, List.set_cons_succ, List.set_cons_zero]
                          clear hS
                          have hS := hHeld
                          clear hHeld
                          clear P C7 C12 r1 s1 m1 o1
                          have P := Lib.hid qP
                          have C12 := Lib.hid qC12
                          clear qP qC12
                          refine wpAnyH_ready (rs := [13]) (by kernel_rfl) (by simp) ?_
                          refine' (AllReadyH.cons ?hoc13sx7x2x12x3x8 (fun K hK => ?stc13sx7x2x12x3x8) AllReadyH.nil)
                          case hoc13sx7x2x12x3x8 => (simp only [List.getElem?_toArray, List.getElem?_cons_succ, List.getElem?_cons_zero]; rfl)
                          obtain ⟨v13, Wqx7x2x12x3x8x13, r1, s1, m1, o1⟩ := push5 P.out.bs g12 (y : Int) C12.out (by have := HNE.out; omega)
                          have qP := P.out.addB AC.out.2.2.2 (ex.fst s.f 20, k5, y) s1 m1 o1
                          have qS := And.intro ((m1.block _ (blk_lt hS.1) (P.out.bs.ty hS.1 (by decide))).trans hS.1) ((m1.block _ (blk_lt hS.2) (P.out.bs.ty hS.2 (by decide))).trans hS.2)
                          refine dk.step_app_run rfl (.tmp 61) (.tmp 64) 37 rfl rfl rfl rfl r1 ?_
                          refine hK.out _ _ qS (fun hHeld => ?_)
                          clear hK K qS
                          try simp only [Act.put, List.setIfInBounds_toArray, List.set_cons_succ, List.set_cons_zero]
                          clear hS
                          have hS := hHeld
                          clear hHeld
                          clear P C12 r1 s1 m1 o1
                          have P := Lib.hid qP
                          clear qP 
                          refine' wpAnyH_take (i := 14) ?h1x14sx7x2x12x3x8x13 ?hsx14sx7x2x12x3x8x13 ?hfx14sx7x2x12x3x8x13 ?hrx14sx7x2x12x3x8x13 ?hQx14sx7x2x12x3x8x13 (Or.inl ⟨?hwx14sx7x2x12x3x8x13, ?hyx14sx7x2x12x3x8x13⟩) hS ?restx14sx7x2x12x3x8x13
                          case h1x14sx7x2x12x3x8x13 => (simp only [List.getElem?_toArray, List.getElem?_cons_succ, List.getElem?_cons_zero]; rfl)
                          case hsx14sx7x2x12x3x8x13 | hfx14sx7x2x12x3x8x13 | hrx14sx7x2x12x3x8x13 => kernel_rfl
                          case hQx14sx7x2x12x3x8x13 => exact fun _ _ _ h => h
                          case hwx14sx7x2x12x3x8x13 => rfl
                          case hyx14sx7x2x12x3x8x13 =>
                            intro W hW
                            go_simp
                            try with_reducible rfl
                          simp only [Act.put, List.setIfInBounds_toArray, List.set_cons_succ, List.set_cons_zero]
                          refine' wpAnyH_take (i := 15) ?h1x15sx7x2x12x3x8x13 ?hsx15sx7x2x12x3x8x13 ?hfx15sx7x2x12x3x8x13 ?hrx15sx7x2x12x3x8x13 ?hQx15sx7x2x12x3x8x13 (Or.inl ⟨?hwx15sx7x2x12x3x8x13, ?hyx15sx7x2x12x3x8x13⟩) hS ?restx15sx7x2x12x3x8x13
                          case h1x15sx7x2x12x3x8x13 => (simp only [List.getElem?_toArray, List.getElem?_cons_succ, List.getElem?_cons_zero]; rfl)
                          case hsx15sx7x2x12x3x8x13 | hfx15sx7x2x12x3x8x13 | hrx15sx7x2x12x3x8x13 => kernel_rfl
                          case hQx15sx7x2x12x3x8x13 => exact fun _ _ _ h => h
                          case hwx15sx7x2x12x3x8x13 => rfl
                          case hyx15sx7x2x12x3x8x13 =>
                            intro W hW
                            go_simp
                            try with_reducible rfl
                          simp only [Act.put, List.setIfInBounds_toArray, List.set_cons_succ, List.set_cons_zero]
                          refine' wpAnyH_take (i := 16) ?h1x16sx7x2x12x3x8x13 ?hsx16sx7x2x12x3x8x13 ?hfx16sx7x2x12x3x8x13 ?hrx16sx7x2x12x3x8x13 ?hQx16sx7x2x12x3x8x13 (Or.inl ⟨?hwx16sx7x2x12x3x8x13, ?hyx16sx7x2x12x3x8x13⟩) hS ?restx16sx7x2x12x3x8x13
                          case h1x16sx7x2x12x3x8x13 => (simp only [List.getElem?_toArray, List.getElem?_cons_succ, List.getElem?_cons_zero]; rfl)
                          case hsx16sx7x2x12x3x8x13 | hfx16sx7x2x12x3x8x13 | hrx16sx7x2x12x3x8x13 => kernel_rfl
                          case hQx16sx7x2x12x3x8x13 => exact fun _ _ _ h => h
                          case hwx16sx7x2x12x3x8x13 => rfl
                          case hyx16sx7x2x12x3x8x13 =>
                            intro W hW
                            go_simp
                            try with_reducible rfl
                          simp only [Act.put, List.setIfInBounds_toArray, List.set_cons_succ, List.set_cons_zero]
                          refine wpAnyH_done (by kernel_rfl) ?_ _
                          go_wp2_with fail
                          go_meet
                          exact ⟨_, D5, s5, S5, T5, P.out.whole, hS.1, P.out.los.1, NSQ5.out⟩
                      case stc12sx7 =>
                        have hb : Below Wbx7.heap.size Wbx7 (Wbx7.alloc (.cells #[.int .u8 (y : Int)] 5)) := (Below.refl _ _).alloc (Nat.le_refl _) _
                        have qS := And.intro ((hb.block _ (blk_lt hS.1)).trans hS.1) ((hb.block _ (blk_lt hS.2)).trans hS.2)
                        have qP := P.out.below hb
                        have qC12 := heap_alloc_new Wbx7 (.cells #[.int .u8 (y : Int)] 5)
                        have qC7 := (hb.block _ (blk_lt C7.out)).trans C7.out
                        refine step_bs1 rfl 37 1 (.tmp 63) rfl rfl (bs37 (y : Int) Wbx7) ?_
                        refine hK.out _ _ qS (fun hHeld => ?_)
                        clear hK K qS
                        try simp only [Act.put, List.setIfInBounds_toArray, List.set_cons_succ, List.set_cons_zero]
                        clear hS
                        have hS := hHeld
                        clear hHeld
                        clear hb P C7
                        generalize Wbx7.alloc (.cells #[.int .u8 (y : Int)] 5) = Wbx7x12 at *
                        generalize Wbx7.heap.size = g12 at *
                        have P := Lib.hid qP
                        have C7 := Lib.hid qC7
                        have C12 := Lib.hid qC12
                        clear qP qC7 qC12
                        refine wpAnyH_ready (rs := [2]) (by kernel_rfl) (by simp) ?_
                        refine' (AllReadyH.cons ?hoc2sx7x12 (fun K hK => ?stc2sx7x12) AllReadyH.nil)
                        case hoc2sx7x12 => (simp only [List.getElem?_toArray, List.getElem?_cons_succ, List.getElem?_cons_zero]; rfl)
                        have hb : Below Wbx7x12.heap.size Wbx7x12 (Wbx7x12.alloc (.cells Cl.toArray 26)) := (Below.refl _ _).alloc (Nat.le_refl _) _
                        have qS := And.intro ((hb.block _ (blk_lt hS.1)).trans hS.1) ((hb.block _ (blk_lt hS.2)).trans hS.2)
                        have qP := P.out.below hb
                        have qC2 := heap_alloc_new Wbx7x12 (.cells Cl.toArray 26)
                        have qC7 := (hb.block _ (blk_lt C7.out)).trans C7.out
                        have qC12 := (hb.block _ (blk_lt C12.out)).trans C12.out
                        have nv : vl.ownBlock ≠ some Wbx7x12.heap.size := fun e => by have := P.out.l.lt _ e; omega
                        refine step_bs1 rfl 49 1 (.tmp 53) rfl rfl (by have := bs49 (ex.fst s.f 20) (hl.sha (bI y)) (hl.sha_len _ (bI_byt HY.out)) Wbx7x12; rw [← HCL.out] at this; exact this) ?_
                        refine hK.out _ _ qS (fun hHeld => ?_)
                        clear hK K qS
                        try simp only [Act.put, List.setIfInBounds_toArray, List.set_cons_succ, List.set_cons_zero]
                        clear hS
                        have hS := hHeld
                        clear hHeld
                        clear hb P C7 C12
                        generalize Wbx7x12.alloc (.cells Cl.toArray 26) = Wbx7x12x2 at *
                        generalize Wbx7x12.heap.size = g2 at *
                        have P := Lib.hid qP
                        have C7 := Lib.hid qC7
                        have C12 := Lib.hid qC12
                        have C2 := Lib.hid qC2
                        clear qP qC7 qC12 qC2
                        refine wpAnyH_ready (rs := [3]) (by kernel_rfl) (by simp) ?_
                        refine' (AllReadyH.cons ?hoc3sx7x12x2 (fun K hK => ?stc3sx7x12x2) AllReadyH.nil)
                        case hoc3sx7x12x2 => (simp only [List.getElem?_toArray, List.getElem?_cons_succ, List.getElem?_cons_zero]; rfl)
                        obtain ⟨v3, Wqx7x12x2x3, r1, s1, m1, o1⟩ := push26 P.out.l g2 Cl HL33.out HO33.out C2.out (by have := HNE.out; omega)
                        have qP := P.out.addL3 AC.out.2.2.2 (ex.fst s.f 20) k5 y Cl HCL.out s1 m1 o1
                        have qS := And.intro ((m1.block _ (blk_lt hS.1) (P.out.l.ty hS.1 (by decide))).trans hS.1) ((m1.block _ (blk_lt hS.2) NV.out).trans hS.2)
                        have qC7 := (m1.block _ (blk_lt C7.out) (P.out.l.ty C7.out (by decide))).trans C7.out
                        have qC12 := (m1.block _ (blk_lt C12.out) (P.out.l.ty C12.out (by decide))).trans C12.out
                        refine dk.step_app_run rfl (.tmp 52) (.tmp 54) 49 rfl rfl rfl rfl r1 ?_
                        refine hK.out _ _ qS (fun hHeld => ?_)
                        clear hK K qS
                        try simp only [Act.put, List.setIfInBounds_toArray, List.set_cons_succ, List.set_cons_zero]
                        clear hS
                        have hS := hHeld
                        clear hHeld
                        clear P C7 C12 C2 r1 s1 m1 o1
                        have P := Lib.hid qP
                        have C7 := Lib.hid qC7
                        have C12 := Lib.hid qC12
                        clear qP qC7 qC12
                        refine wpAnyH_ready (rs := [8]) (by kernel_rfl) (by simp) ?_
                        refine' (AllReadyH.cons ?hoc8sx7x12x2x3 (fun K hK => ?stc8sx7x12x2x3) AllReadyH.nil)
                        case hoc8sx7x12x2x3 => (simp only [List.getElem?_toArray, List.getElem?_cons_succ, List.getElem?_cons_zero]; rfl)
                        obtain ⟨v8, Wqx7x12x2x3x8, r1, s1, m1, o1⟩ := push3 P.out.wh g7 t' C7.out (by have := HNE.out; omega)
                        have qP := P.out.addW3 AC.out.2.2.2 (ex.fst s.f 20) k5 y t' K5.out s1 m1 o1
                        have qS := And.intro ((m1.block _ (blk_lt hS.1) (P.out.wh.ty hS.1 (by decide))).trans hS.1) ((m1.block _ (blk_lt hS.2) (P.out.wh.ty hS.2 (by decide))).trans hS.2)
                        have qC12 := (m1.block _ (blk_lt C12.out) (P.out.wh.ty C12.out (by decide))).trans C12.out
                        refine dk.step_app_run rfl (.tmp 56) (.tmp 59) 50 rfl rfl rfl rfl r1 ?_
                        refine hK.out _ _ qS (fun hHeld => ?_)
                        clear hK K qS
                        try simp only [Act.put, List.setIfInBounds_toArray, List.set_cons_succ, List.set_cons_zero]
                        clear hS
                        have hS := hHeld
                        clear hHeld
                        clear P C7 C12 r1 s1 m1 o1
                        have P := Lib.hid qP
                        have C12 := Lib.hid qC12
                        clear qP qC12
                        refine wpAnyH_ready (rs := [13]) (by kernel_rfl) (by simp) ?_
                        refine' (AllReadyH.cons ?hoc13sx7x12x2x3x8 (fun K hK => ?stc13sx7x12x2x3x8) AllReadyH.nil)
                        case hoc13sx7x12x2x3x8 => (simp only [List.getElem?_toArray, List.getElem?_cons_succ, List.getElem?_cons_zero]; rfl)
                        obtain ⟨v13, Wqx7x12x2x3x8x13, r1, s1, m1, o1⟩ := push5 P.out.bs g12 (y : Int) C12.out (by have := HNE.out; omega)
                        have qP := P.out.addB AC.out.2.2.2 (ex.fst s.f 20, k5, y) s1 m1 o1
                        have qS := And.intro ((m1.block _ (blk_lt hS.1) (P.out.bs.ty hS.1 (by decide))).trans hS.1) ((m1.block _ (blk_lt hS.2) (P.out.bs.ty hS.2 (by decide))).trans hS.2)
                        refine dk.step_app_run rfl (.tmp 61) (.tmp 64) 37 rfl rfl rfl rfl r1 ?_
                        refine hK.out _ _ qS (fun hHeld => ?_)
                        clear hK K qS
                        try simp only [Act.put, List.setIfInBounds_toArray, List.set_cons_succ, List.set_cons_zero]
                        clear hS
                        have hS := hHeld
                        clear hHeld
                        clear P C12 r1 s1 m1 o1
                        have P := Lib.hid qP
                        clear qP 
                        refine' wpAnyH_take (i := 14) ?h1x14sx7x12x2x3x8x13 ?hsx14sx7x12x2x3x8x13 ?hfx14sx7x12x2x3x8x13 ?hrx14sx7x12x2x3x8x13 ?hQx14sx7x12x2x3x8x13 (Or.inl ⟨?hwx14sx7x12x2x3x8x13, ?hyx14sx7x12x2x3x8x13⟩) hS ?restx14sx7x12x2x3x8x13
                        case h1x14sx7x12x2x3x8x13 => (simp only [List.getElem?_toArray, List.getElem?_cons_succ, List.getElem?_cons_zero]; rfl)
                        case hsx14sx7x12x2x3x8x13 | hfx14sx7x12x2x3x8x13 | hrx14sx7x12x2x3x8x13 => kernel_rfl
                        case hQx14sx7x12x2x3x8x13 => exact fun _ _ _ h => h
                        case hwx14sx7x12x2x3x8x13 => rfl
                        case hyx14sx7x12x2x3x8x13 =>
                          intro W hW
                          go_simp
                          try with_reducible rfl
                        simp only [Act.put, List.setIfInBounds_toArray, List.set_cons_succ, List.set_cons_zero]
                        refine' wpAnyH_take (i := 15) ?h1x15sx7x12x2x3x8x13 ?hsx15sx7x12x2x3x8x13 ?hfx15sx7x12x2x3x8x13 ?hrx15sx7x12x2x3x8x13 ?hQx15sx7x12x2x3x8x13 (Or.inl ⟨?hwx15sx7x12x2x3x8x13, ?hyx15sx7x12x2x3x8x13⟩) hS ?restx15sx7x12x2x3x8x13
                        case h1x15sx7x12x2x3x8x13 => (simp only [List.getElem?_toArray, List.getElem?_cons_succ, List.getElem?_cons_zero]; rfl)
                        case hsx15sx7x12x2x3x8x13 | hfx15sx7x12x2x3x8x13 | hrx15sx7x12x2x3x8x13 => kernel_rfl
                        case hQx15sx7x12x2x3x8x13 => exact fun _ _ _ h => h
                        case hwx15sx7x12x2x3x8x13 => rfl
                        case hyx15sx7x12x2x3x8x13 =>
                          intro W hW
                          go_simp
                          try with_reducible rfl
                        simp only [Act.put, List.setIfInBounds_toArray, List.set_cons_succ, List.set_cons_zero]
                        refine' wpAnyH_take (i := 16) ?h1x16sx7x12x2x3x8x13 ?hsx16sx7x12x2x3x8x13 ?hfx16sx7x12x2x3x8x13 ?hrx16sx7x12x2x3x8x13 ?hQx16sx7x12x2x3x8x13 (Or.inl ⟨?hwx16sx7x12x2x3x8x13, ?hyx16sx7x12x2x3x8x13⟩) hS ?restx16sx7x12x2x3x8x13
                        case h1x16sx7x12x2x3x8x13 => (simp only [List.getElem?_toArray, List.getElem?_cons_succ, List.getElem?_cons_zero]; rfl)
                        case hsx16sx7x12x2x3x8x13 | hfx16sx7x12x2x3x8x13 | hrx16sx7x12x2x3x8x13 => kernel_rfl
                        case hQx16sx7x12x2x3x8x13 => exact fun _ _ _ h => h
                        case hwx16sx7x12x2x3x8x13 => rfl
                        case hyx16sx7x12x2x3x8x13 =>
                          intro W hW
                          go_simp
                          try with_reducible rfl
                        simp only [Act.put, List.setIfInBounds_toArray, List.set_cons_succ, List.set_cons_zero]
                        refine wpAnyH_done (by kernel_rfl) ?_ _
                        go_wp2_with fail
                        go_meet
                        exact ⟨_, D5, s5, S5, T5, P.out.whole, hS.1, P.out.los.1, NSQ5.out⟩
                    case stc12s =>
                      have hb : Below Wr14.heap.size Wr14 (Wr14.alloc (.cells #[.int .u8 (y : Int)] 5)) := (Below.refl _ _).alloc (Nat.le_refl _) _
                      have qS := And.intro ((hb.block _ (blk_lt hS.1)).trans hS.1) ((hb.block _ (blk_lt hS.2)).trans hS.2)
                      have qP := P.out.below hb
                      have qC12 := heap_alloc_new Wr14 (.cells #[.int .u8 (y : Int)] 5)
                      refine step_bs1 rfl 37 1 (.tmp 63) rfl rfl (bs37 (y : Int) Wr14) ?_
                      refine hK.out _ _ qS (fun hHeld => ?_)
                      clear hK K qS
                      try simp only [Act.put, List.setIfInBounds_toArray, List.set_cons_succ, List.set_cons_zero]
                      clear hS
                      have hS := hHeld
                      clear hHeld
                      clear hb P 
                      generalize Wr14.alloc (.cells #[.int .u8 (y : Int)] 5) = Wbx12 at *
                      generalize Wr14.heap.size = g12 at *
                      have P := Lib.hid qP
                      have C12 := Lib.hid qC12
                      clear qP qC12
                      refine wpAnyH_ready (rs := [2, 7]) (by kernel_rfl) (by simp) ?_
                      refine' (AllReadyH.cons ?hoc2sx12 (fun K hK => ?stc2sx12) (AllReadyH.cons ?hoc7sx12 (fun K hK => ?stc7sx12) AllReadyH.nil))
                      case hoc2sx12 => (simp only [List.getElem?_toArray, List.getElem?_cons_succ, List.getElem?_cons_zero]; rfl)
                      case hoc7sx12 => (simp only [List.getElem?_toArray, List.getElem?_cons_succ, List.getElem?_cons_zero]; rfl)
                      case stc2sx12 =>
                        have hb : Below Wbx12.heap.size Wbx12 (Wbx12.alloc (.cells Cl.toArray 26)) := (Below.refl _ _).alloc (Nat.le_refl _) _
                        have qS := And.intro ((hb.block _ (blk_lt hS.1)).trans hS.1) ((hb.block _ (blk_lt hS.2)).trans hS.2)
                        have qP := P.out.below hb
                        have qC2 := heap_alloc_new Wbx12 (.cells Cl.toArray 26)
                        have qC12 := (hb.block _ (blk_lt C12.out)).trans C12.out
                        have nv : vl.ownBlock ≠ some Wbx12.heap.size := fun e => by have := P.out.l.lt _ e; omega
                        refine step_bs1 rfl 49 1 (.tmp 53) rfl rfl (by have := bs49 (ex.fst s.f 20) (hl.sha (bI y)) (hl.sha_len _ (bI_byt HY.out)) Wbx12; rw [← HCL.out] at this; exact this) ?_
                        refine hK.out _ _ qS (fun hHeld => ?_)
                        clear hK K qS
                        try simp only [Act.put, List.setIfInBounds_toArray, List.set_cons_succ, List.set_cons_zero]
                        clear hS
                        have hS := hHeld
                        clear hHeld
                        clear hb P C12
                        generalize Wbx12.alloc (.cells Cl.toArray 26) = Wbx12x2 at *
                        generalize Wbx12.heap.size = g2 at *
                        have P := Lib.hid qP
                        have C12 := Lib.hid qC12
                        have C2 := Lib.hid qC2
                        clear qP qC12 qC2
                        refine wpAnyH_ready (rs := [3, 7]) (by kernel_rfl) (by simp) ?_
                        refine' (AllReadyH.cons ?hoc3sx12x2 (fun K hK => ?stc3sx12x2) (AllReadyH.cons ?hoc7sx12x2 (fun K hK => ?stc7sx12x2) AllReadyH.nil))
                        case hoc3sx12x2 => (simp only [List.getElem?_toArray, List.getElem?_cons_succ, List.getElem?_cons_zero]; rfl)
                        case hoc7sx12x2 => (simp only [List.getElem?_toArray, List.getElem?_cons_succ, List.getElem?_cons_zero]; rfl)
                        case stc3sx12x2 =>
                          obtain ⟨v3, Wqx12x2x3, r1, s1, m1, o1⟩ := push26 P.out.l g2 Cl HL33.out HO33.out C2.out (by have := HNE.out; omega)
                          have qP := P.out.addL3 AC.out.2.2.2 (ex.fst s.f 20) k5 y Cl HCL.out s1 m1 o1
                          have qS := And.intro ((m1.block _ (blk_lt hS.1) (P.out.l.ty hS.1 (by decide))).trans hS.1) ((m1.block _ (blk_lt hS.2) NV.out).trans hS.2)
                          have qC12 := (m1.block _ (blk_lt C12.out) (P.out.l.ty C12.out (by decide))).trans C12.out
                          refine dk.step_app_run rfl (.tmp 52) (.tmp 54) 49 rfl rfl rfl rfl r1 ?_
                          refine hK.out _ _ qS (fun hHeld => ?_)
                          clear hK K qS
                          try simp only [Act.put, List.setIfInBounds_toArray, List.set_cons_succ, List.set_cons_zero]
                          clear hS
                          have hS := hHeld
                          clear hHeld
                          clear P C12 C2 r1 s1 m1 o1
                          have P := Lib.hid qP
                          have C12 := Lib.hid qC12
                          clear qP qC12
                          refine wpAnyH_ready (rs := [7]) (by kernel_rfl) (by simp) ?_
                          refine' (AllReadyH.cons ?hoc7sx12x2x3 (fun K hK => ?stc7sx12x2x3) AllReadyH.nil)
                          case hoc7sx12x2x3 => (simp only [List.getElem?_toArray, List.getElem?_cons_succ, List.getElem?_cons_zero]; rfl)
                          have hb : Below Wqx12x2x3.heap.size Wqx12x2x3 (Wqx12x2x3.alloc (.cells #[.int .i64 t'] 3)) := (Below.refl _ _).alloc (Nat.le_refl _) _
                          have qS := And.intro ((hb.block _ (blk_lt hS.1)).trans hS.1) ((hb.block _ (blk_lt hS.2)).trans hS.2)
                          have qP := P.out.below hb
                          have qC7 := heap_alloc_new Wqx12x2x3 (.cells #[.int .i64 t'] 3)
                          have qC12 := (hb.block _ (blk_lt C12.out)).trans C12.out
                          refine step_bs1 rfl 50 1 (.tmp 58) rfl rfl (bs50 t' Wqx12x2x3) ?_
                          refine hK.out _ _ qS (fun hHeld => ?_)
                          clear hK K qS
                          try simp only [Act.put, List.setIfInBounds_toArray, List.set_cons_succ, List.set_cons_zero]
                          clear hS
                          have hS := hHeld
                          clear hHeld
                          clear hb P C12
                          generalize Wqx12x2x3.alloc (.cells #[.int .i64 t'] 3) = Wbx12x2x3x7 at *
                          generalize Wqx12x2x3.heap.size = g7 at *
                          have P := Lib.hid qP
                          have C12 := Lib.hid qC12
                          have C7 := Lib.hid qC7
                          clear qP qC12 qC7
                          refine wpAnyH_ready (rs := [8]) (by kernel_rfl) (by simp) ?_
                          refine' (AllReadyH.cons ?hoc8sx12x2x3x7 (fun K hK => ?stc8sx12x2x3x7) AllReadyH.nil)
                          case hoc8sx12x2x3x7 => (simp only [List.getElem?_toArray, List.getElem?_cons_succ, List.getElem?_cons_zero]; rfl)
                          obtain ⟨v8, Wqx12x2x3x7x8, r1, s1, m1, o1⟩ := push3 P.out.wh g7 t' C7.out (by have := HNE.out; omega)
                          have qP := P.out.addW3 AC.out.2.2.2 (ex.fst s.f 20) k5 y t' K5.out s1 m1 o1
                          have qS := And.intro ((m1.block _ (blk_lt hS.1) (P.out.wh.ty hS.1 (by decide))).trans hS.1) ((m1.block _ (blk_lt hS.2) (P.out.wh.ty hS.2 (by decide))).trans hS.2)
                          have qC12 := (m1.block _ (blk_lt C12.out) (P.out.wh.ty C12.out (by decide))).trans C12.out
                          refine dk.step_app_run rfl (.tmp 56) (.tmp 59) 50 rfl rfl rfl rfl r1 ?_
                          refine hK.out _ _ qS (fun hHeld => ?_)
                          clear hK K qS
                          try simp only [Act.put, List.setIfInBounds_toArray, List.set_cons_succ, List.set_cons_zero]
                          clear hS
                          have hS := hHeld
                          clear hHeld
                          clear P C12 C7 r1 s1 m1 o1
                          have P := Lib.hid qP
                          have C12 := Lib.hid qC12
                          clear qP qC12
                          refine wpAnyH_ready (rs := [13]) (by kernel_rfl) (by simp) ?_
                          refine' (AllReadyH.cons ?hoc13sx12x2x3x7x8 (fun K hK => ?stc13sx12x2x3x7x8) AllReadyH.nil)
                          case hoc13sx12x2x3x7x8 => (simp only [List.getElem?_toArray, List.getElem?_cons_succ, List.getElem?_cons_zero]; rfl)
                          obtain ⟨v13, Wqx12x2x3x7x8x13, r1, s1, m1, o1⟩ := push5 P.out.bs g12 (y : Int) C12.out (by have := HNE.out; omega)
                          have qP := P.out.addB AC.out.2.2.2 (ex.fst s.f 20, k5, y) s1 m1 o1
                          have qS := And.intro ((m1.block _ (blk_lt hS.1) (P.out.bs.ty hS.1 (by decide))).trans hS.1) ((m1.block _ (blk_lt hS.2) (P.out.bs.ty hS.2 (by decide))).trans hS.2)
                          refine dk.step_app_run rfl (.tmp 61) (.tmp 64) 37 rfl rfl rfl rfl r1 ?_
                          refine hK.out _ _ qS (fun hHeld => ?_)
                          clear hK K qS
                          try simp only [Act.put, List.setIfInBounds_toArray, List.set_cons_succ, List.set_cons_zero]
                          clear hS
                          have hS := hHeld
                          clear hHeld
                          clear P C12 r1 s1 m1 o1
                          have P := Lib.hid qP
                          clear qP 
                          refine' wpAnyH_take (i := 14) ?h1x14sx12x2x3x7x8x13 ?hsx14sx12x2x3x7x8x13 ?hfx14sx12x2x3x7x8x13 ?hrx14sx12x2x3x7x8x13 ?hQx14sx12x2x3x7x8x13 (Or.inl ⟨?hwx14sx12x2x3x7x8x13, ?hyx14sx12x2x3x7x8x13⟩) hS ?restx14sx12x2x3x7x8x13
                          case h1x14sx12x2x3x7x8x13 => (simp only [List.getElem?_toArray, List.getElem?_cons_succ, List.getElem?_cons_zero]; rfl)
                          case hsx14sx12x2x3x7x8x13 | hfx14sx12x2x3x7x8x13 | hrx14sx12x2x3x7x8x13 => kernel_rfl
                          case hQx14sx12x2x3x7x8x13 => exact fun _ _ _ h => h
                          case hwx14sx12x2x3x7x8x13 => rfl
                          case hyx14sx12x2x3x7x8x13 =>
                            intro W hW
                            go_simp
                            try with_reducible rfl
                          simp only [Act.put, List.setIfInBounds_toArray, List.set_cons_succ, List.set_cons_zero]
                          refine' wpAnyH_take (i := 15) ?h1x15sx12x2x3x7x8x13 ?hsx15sx12x2x3x7x8x13 ?hfx15sx12x2x3x7x8x13 ?hrx15sx12x2x3x7x8x13 ?hQx15sx12x2x3x7x8x13 (Or.inl ⟨?hwx15sx12x2x3x7x8x13, ?hyx15sx12x2x3x7x8x13⟩) hS ?restx15sx12x2x3x7x8x13
                          case h1x15sx12x2x3x7x8x13 => (simp only [List.getElem?_toArray, List.getElem?_cons_succ, List.getElem?_cons_zero]; rfl)
                          case hsx15sx12x2x3x7x8x13 | hfx15sx12x2x3x7x8x13 | hrx15sx12x2x3x7x8x13 => kernel_rfl
                          case hQx15sx12x2x3x7x8x13 => exact fun _ _ _ h => h
                          case hwx15sx12x2x3x7x8x13 => rfl
                          case hyx15sx12x2x3x7x8x13 =>
                            intro W hW
                            go_simp
                            try with_reducible rfl
                          simp only [Act.put, List.setIfInBounds_toArray, List.set_cons_succ, List.set_cons_zero]
                          refine' wpAnyH_take (i := 16) ?h1x16sx12x2x3x7x8x13 ?hsx16sx12x2x3x7x8x13 ?hfx16sx12x2x3x7x8x13 ?hrx16sx12x2x3x7x8x13 ?hQx16sx12x2x3x7x8x13 (Or.inl ⟨?hwx16sx12x2x3x7x8x13, ?hyx16sx12x2x3x7x8x13⟩) hS ?restx16sx12x2x3x7x8x13
                          case h1x16sx12x2x3x7x8x13 => (simp only [List.getElem?_toArray, List.getElem?_cons_succ, List.getElem?_cons_zero]; rfl)
                          case hsx16sx12x2x3x7x8x13 | hfx16sx12x2x3x7x8x13 | hrx16sx12x2x3x7x8x13 => kernel_rfl
                          case hQx16sx12x2x3x7x8x13 => exact fun _ _ _ h => h
                          case hwx16sx12x2x3x7x8x13 => rfl
                          case hyx16sx12x2x3x7x8x13 =>
                            intro W hW
                            go_simp
                            try with_reducible rfl
                          simp only [Act.put, List.setIfInBounds_toArray, List.set_cons_succ, List.set_cons_zero]
                          refine wpAnyH_done (by kernel_rfl) ?_ _
                          go_wp2_with fail
                          go_meet
                          exact ⟨_, D5, s5, S5, T5, P.out.whole, hS.1, P.out.los.1, NSQ5.out⟩
                        case stc7sx12x2 =>
                          have hb : Below Wbx12x2.heap.size Wbx12x2 (Wbx12x2.alloc (.cells #[.int .i64 t'] 3)) := (Below.refl _ _).alloc (Nat.le_refl _) _
                          have qS := And.intro ((hb.block _ (blk_lt hS.1)).trans hS.1) ((hb.block _ (blk_lt hS.2)).trans hS.2)
                          have qP := P.out.below hb
                          have qC7 := heap_alloc_new Wbx12x2 (.cells #[.int .i64 t'] 3)
                          have qC12 := (hb.block _ (blk_lt C12.out)).trans C12.out
                          have qC2 := (hb.block _ (blk_lt C2.out)).trans C2.out
                          refine step_bs1 rfl 50 1 (.tmp 58) rfl rfl (bs50 t' Wbx12x2) ?_
                          refine hK.out _ _ qS (fun hHeld => ?_)
                          clear hK K qS
                          try simp only [Act.put, List.setIfInBounds_toArray, List.set_cons_succ, List.set_cons_zero]
                          clear hS
                          have hS := hHeld
                          clear hHeld
                          clear hb P C12 C2
                          generalize Wbx12x2.alloc (.cells #[.int .i64 t'] 3) = Wbx12x2x7 at *
                          generalize Wbx12x2.heap.size = g7 at *
                          have P := Lib.hid qP
                          have C12 := Lib.hid qC12
                          have C2 := Lib.hid qC2
                          have C7 := Lib.hid qC7
                          clear qP qC12 qC2 qC7
                          refine wpAnyH_ready (rs := [3]) (by kernel_rfl) (by simp) ?_
                          refine' (AllReadyH.cons ?hoc3sx12x2x7 (fun K hK => ?stc3sx12x2x7) AllReadyH.nil)
                          case hoc3sx12x2x7 => (simp only [List.getElem?_toArray, List.getElem?_cons_succ, List.getElem?_cons_zero]; rfl)
                          obtain ⟨v3, Wqx12x2x7x3, r1, s1, m1, o1⟩ := push26 P.out.l g2 Cl HL33.out HO33.out C2.out (by have := HNE.out; omega)
                          have qP := P.out.addL3 AC.out.2.2.2 (ex.fst s.f 20) k5 y Cl HCL.out s1 m1 o1
                          have qS := And.intro ((m1.block _ (blk_lt hS.1) (P.out.l.ty hS.1 (by decide))).trans hS.1) ((m1.block _ (blk_lt hS.2) NV.out).trans hS.2)
                          have qC12 := (m1.block _ (blk_lt C12.out) (P.out.l.ty C12.out (by decide))).trans C12.out
                          have qC7 := (m1.block _ (blk_lt C7.out) (P.out.l.ty C7.out (by decide))).trans C7.out
                          refine dk.step_app_run rfl (.tmp 52) (.tmp 54) 49 rfl rfl rfl rfl r1 ?_
                          refine hK.out _ _ qS (fun hHeld => ?_)
                          clear hK K qS
                          try simp only [Act.put, List.setIfInBounds_toArray, List.set_cons_succ, List.set_cons_zero]
                          clear hS
                          have hS := hHeld
                          clear hHeld
                          clear P C12 C2 C7 r1 s1 m1 o1
                          have P := Lib.hid qP
                          have C12 := Lib.hid qC12
                          have C7 := Lib.hid qC7
                          clear qP qC12 qC7
                          refine wpAnyH_ready (rs := [8]) (by kernel_rfl) (by simp) ?_
                          refine' (AllReadyH.cons ?hoc8sx12x2x7x3 (fun K hK => ?stc8sx12x2x7x3) AllReadyH.nil)
                          case hoc8sx12x2x7x3 => (simp only [List.getElem?_toArray, List.getElem?_cons_succ, List.getElem?_cons_zero]; rfl)
                          obtain ⟨v8, Wqx12x2x7x3x8, r1, s1, m1, o1⟩ := push3 P.out.wh g7 t' C7.out (by have := HNE.out; omega)
                          have qP := P.out.addW3 AC.out.2.2.2 (ex.fst s.f 20) k5 y t' K5.out s1 m1 o1
                          have qS := And.intro ((m1.block _ (blk_lt hS.1) (P.out.wh.ty hS.1 (by decide))).trans hS.1) ((m1.block _ (blk_lt hS.2) (P.out.wh.ty hS.2 (by decide))).trans hS.2)
                          have qC12 := (m1.block _ (blk_lt C12.out) (P.out.wh.ty C12.out (by decide))).trans C12.out
                          refine dk.step_app_run rfl (.tmp 56) (.tmp 59) 50 rfl rfl rfl rfl r1 ?_
                          refine hK.out _ _ qS (fun hHeld => ?_)
                          clear hK K qS
                          try simp only [Act.put, List.setIfInBounds_toArray, List.set_cons_succ, List.set_cons_zero]
                          clear hS
                          have hS := hHeld
                          clear hHeld
                          clear P C12 C7 r1 s1 m1 o1
                          have P := Lib.hid qP
                          have C12 := Lib.hid qC12
                          clear qP qC12
                          refine wpAnyH_ready (rs := [13]) (by kernel_rfl) (by simp) ?_
                          refine' (AllReadyH.cons ?hoc13sx12x2x7x3x8 (fun K hK => ?stc13sx12x2x7x3x8) AllReadyH.nil)
                          case hoc13sx12x2x7x3x8 => (simp only [List.getElem?_toArray, List.getElem?_cons_succ, List.getElem?_cons_zero]; rfl)
                          obtain ⟨v13, Wqx12x2x7x3x8x13, r1, s1, m1, o1⟩ := push5 P.out.bs g12 (y : Int) C12.out (by have := HNE.out; omega)
                          have qP := P.out.addB AC.out.2.2.2 (ex.fst s.f 20, k5, y) s1 m1 o1
                          have qS := And.intro ((m1.block _ (blk_lt hS.1) (P.out.bs.ty hS.1 (by decide))).trans hS.1) ((m1.block _ (blk_lt hS.2) (P.out.bs.ty hS.2 (by decide))).trans hS.2)
                          refine dk.step_app_run rfl (.tmp 61) (.tmp 64) 37 rfl rfl rfl rfl r1 ?_
                          refine hK.out _ _ qS (fun hHeld => ?_)
                          clear hK K qS
                          try simp only [Act.put, List.setIfInBounds_toArray, List.set_cons_succ, List.set_cons_zero]
                          clear hS
                          have hS := hHeld
                          clear hHeld
                          clear P C12 r1 s1 m1 o1
                          have P := Lib.hid qP
                          clear qP 
                          refine' wpAnyH_take (i := 14) ?h1x14sx12x2x7x3x8x13 ?hsx14sx12x2x7x3x8x13 ?hfx14sx12x2x7x3x8x13 ?hrx14sx12x2x7x3x8x13 ?hQx14sx12x2x7x3x8x13 (Or.inl ⟨?hwx14sx12x2x7x3x8x13, ?hyx14sx12x2x7x3x8x13⟩) hS ?restx14sx12x2x7x3x8x13
                          case h1x14sx12x2x7x3x8x13 => (simp only [List.getElem?_toArray, List.getElem?_cons_succ, List.getElem?_cons_zero]; rfl)
                          case hsx14sx12x2x7x3x8x13 | hfx14sx12x2x7x3x8x13 | hrx14sx12x2x7x3x8x13 => kernel_rfl
                          case hQx14sx12x2x7x3x8x13 => exact fun _ _ _ h => h
                          case hwx14sx12x2x7x3x8x13 => rfl
                          case hyx14sx12x2x7x3x8x13 =>
                            intro W hW
                            go_simp
                            try with_reducible rfl
                          simp only [Act.put, List.setIfInBounds_toArray, List.set_cons_succ, List.set_cons_zero]
                          refine' wpAnyH_take (i := 15) ?h1x15sx12x2x7x3x8x13 ?hsx15sx12x2x7x3x8x13 ?hfx15sx12x2x7x3x8x13 ?hrx15sx12x2x7x3x8x13 ?hQx15sx12x2x7x3x8x13 (Or.inl ⟨?hwx15sx12x2x7x3x8x13, ?hyx15sx12x2x7x3x8x13⟩) hS ?restx15sx12x2x7x3x8x13
                          case h1x15sx12x2x7x3x8x13 => (simp only [List.getElem?_toArray, List.getElem?_cons_succ, List.getElem?_cons_zero]; rfl)
                          case hsx15sx12x2x7x3x8x13 | hfx15sx12x2x7x3x8x13 | hrx15sx12x2x7x3x8x13 => kernel_rfl
                          case hQx15sx12x2x7x3x8x13 => exact fun _ _ _ h => h
                          case hwx15sx12x2x7x3x8x13 => rfl
                          case hyx15sx12x2x7x3x8x13 =>
                            intro W hW
                            go_simp
                            try with_reducible rfl
                          simp only [Act.put, List.setIfInBounds_toArray, List.set_cons_succ, List.set_cons_zero]
                          refine' wpAnyH_take (i := 16) ?h1x16sx12x2x7x3x8x13 ?hsx16sx12x2x7x3x8x13 ?hfx16sx12x2x7x3x8x13 ?hrx16sx12x2x7x3x8x13 ?hQx16sx12x2x7x3x8x13 (Or.inl ⟨?hwx16sx12x2x7x3x8x13, ?hyx16sx12x2x7x3x8x13⟩) hS ?restx16sx12x2x7x3x8x13
                          case h1x16sx12x2x7x3x8x13 => (simp only [List.getElem?_toArray, List.getElem?_cons_succ, List.getElem?_cons_zero]; rfl)
                          case hsx16sx12x2x7x3x8x13 | hfx16sx12x2x7x3x8x13 | hrx16sx12x2x7x3x8x13 => kernel_rfl
                          case hQx16sx12x2x7x3x8x13 => exact fun _ _ _ h => h
                          case hwx16sx12x2x7x3x8x13 => rfl
                          case hyx16sx12x2x7x3x8x13 =>
                            intro W hW
                            go_simp
                            try with_reducible rfl
                          simp only [Act.put, List.setIfInBounds_toArray, List.set_cons_succ, List.set_cons_zero]
                          refine wpAnyH_done (by kernel_rfl) ?_ _
                          go_wp2_with fail
                          go_meet
                          exact ⟨_, D5, s5, S5, T5, P.out.whole, hS.1, P.out.los.1, NSQ5.out⟩
                      case stc7sx12 =>
                        have hb : Below Wbx12.heap.size Wbx12 (Wbx12.alloc (.cells #[.int .i64 t'] 3)) := (Below.refl _ _).alloc (Nat.le_refl _) _
                        have qS := And.intro ((hb.block _ (blk_lt hS.1)).trans hS.1) ((hb.block _ (blk_lt hS.2)).trans hS.2)
                        have qP := P.out.below hb
                        have qC7 := heap_alloc_new Wbx12 (.cells #[.int .i64 t'] 3)
                        have qC12 := (hb.block _ (blk_lt C12.out)).trans C12.out
                        refine step_bs1 rfl 50 1 (.tmp 58) rfl rfl (bs50 t' Wbx12) ?_
                        refine hK.out _ _ qS (fun hHeld => ?_)
                        clear hK K qS
                        try simp only [Act.put, List.setIfInBounds_toArray, List.set_cons_succ, List.set_cons_zero]
                        clear hS
                        have hS := hHeld
                        clear hHeld
                        clear hb P C12
                        generalize Wbx12.alloc (.cells #[.int .i64 t'] 3) = Wbx12x7 at *
                        generalize Wbx12.heap.size = g7 at *
                        have P := Lib.hid qP
                        have C12 := Lib.hid qC12
                        have C7 := Lib.hid qC7
                        clear qP qC12 qC7
                        refine wpAnyH_ready (rs := [2]) (by kernel_rfl) (by simp) ?_
                        refine' (AllReadyH.cons ?hoc2sx12x7 (fun K hK => ?stc2sx12x7) AllReadyH.nil)
                        case hoc2sx12x7 => (simp only [List.getElem?_toArray, List.getElem?_cons_succ, List.getElem?_cons_zero]; rfl)
                        have hb : Below Wbx12x7.heap.size Wbx12x7 (Wbx12x7.alloc (.cells Cl.toArray 26)) := (Below.refl _ _).alloc (Nat.le_refl _) _
                        have qS := And.intro ((hb.block _ (blk_lt hS.1)).trans hS.1) ((hb.block _ (blk_lt hS.2)).trans hS.2)
                        have qP := P.out.below hb
                        have qC2 := heap_alloc_new Wbx12x7 (.cells Cl.toArray 26)
                        have qC12 := (hb.block _ (blk_lt C12.out)).trans C12.out
                        have qC7 := (hb.block _ (blk_lt C7.out)).trans C7.out
                        have nv : vl.ownBlock ≠ some Wbx12x7.heap.size := fun e => by have := P.out.l.lt _ e; omega
                        refine step_bs1 rfl 49 1 (.tmp 53) rfl rfl (by have := bs49 (ex.fst s.f 20) (hl.sha (bI y)) (hl.sha_len _ (bI_byt HY.out)) Wbx12x7; rw [← HCL.out] at this; exact this) ?_
                        refine hK.out _ _ qS (fun hHeld => ?_)
                        clear hK K qS
                        try simp only [Act.put, List.setIfInBounds_toArray, List.set_cons_succ, List.set_cons_zero]
                        clear hS
                        have hS := hHeld
                        clear hHeld
                        clear hb P C12 C7
                        generalize Wbx12x7.alloc (.cells Cl.toArray 26) = Wbx12x7x2 at *
                        generalize Wbx12x7.heap.size = g2 at *
                        have P := Lib.hid qP
                        have C12 := Lib.hid qC12
                        have C7 := Lib.hid qC7
                        have C2 := Lib.hid qC2
                        clear qP qC12 qC7 qC2
                        refine wpAnyH_ready (rs := [3]) (by kernel_rfl) (by simp) ?_
                        refine' (AllReadyH.cons ?hoc3sx12x7x2 (fun K hK => ?stc3sx12x7x2) AllReadyH.nil)
                        case hoc3sx12x7x2 => (simp only [List.getElem?_toArray, List.getElem?_cons_succ, List.getElem?_cons_zero]; rfl)
                        obtain ⟨v3, Wqx12x7x2x3, r1, s1, m1, o1⟩ := push26 P.out.l g2 Cl HL33.out HO33.out C2.out (by have := HNE.out; omega)
                        have qP := P.out.addL3 AC.out.2.2.2 (ex.fst s.f 20) k5 y Cl HCL.out s1 m1 o1
                        have qS := And.intro ((m1.block _ (blk_lt hS.1) (P.out.l.ty hS.1 (by decide))).trans hS.1) ((m1.block _ (blk_lt hS.2) NV.out).trans hS.2)
                        have qC12 := (m1.block _ (blk_lt C12.out) (P.out.l.ty C12.out (by decide))).trans C12.out
                        have qC7 := (m1.block _ (blk_lt C7.out) (P.out.l.ty C7.out (by decide))).trans C7.out
                        refine dk.step_app_run rfl (.tmp 52) (.tmp 54) 49 rfl rfl rfl rfl r1 ?_
                        refine hK.out _ _ qS (fun hHeld => ?_)
                        clear hK K qS
                        try simp only [Act.put, List.setIfInBounds_toArray, List.set_cons_succ, List.set_cons_zero]
                        clear hS
                        have hS := hHeld
                        clear hHeld
                        clear P C12 C7 C2 r1 s1 m1 o1
                        have P := Lib.hid qP
                        have C12 := Lib.hid qC12
                        have C7 := Lib.hid qC7
                        clear qP qC12 qC7
                        refine wpAnyH_ready (rs := [8]) (by kernel_rfl) (by simp) ?_
                        refine' (AllReadyH.cons ?hoc8sx12x7x2x3 (fun K hK => ?stc8sx12x7x2x3) AllReadyH.nil)
                        case hoc8sx12x7x2x3 => (simp only [List.getElem?_toArray, List.getElem?_cons_succ, List.getElem?_cons_zero]; rfl)
                        obtain ⟨v8, Wqx12x7x2x3x8, r1, s1, m1, o1⟩ := push3 P.out.wh g7 t' C7.out (by have := HNE.out; omega)
                        have qP := P.out.addW3 AC.out.2.2.2 (ex.fst s.f 20) k5 y t' K5.out s1 m1 o1
                        have qS := And.intro ((m1.block _ (blk_lt hS.1) (P.out.wh.ty hS.1 (by decide))).trans hS.1) ((m1.block _ (blk_lt hS.2) (P.out.wh.ty hS.2 (by decide))).trans hS.2)
                        have qC12 := (m1.block _ (blk_lt C12.out) (P.out.wh.ty C12.out (by decide))).trans C12.out
                        refine dk.step_app_run rfl (.tmp 56) (.tmp 59) 50 rfl rfl rfl rfl r1 ?_
                        refine hK.out _ _ qS (fun hHeld => ?_)
                        clear hK K qS
                        try simp only [Act.put, List.setIfInBounds_toArray, List.set_cons_succ, List.set_cons_zero]
                        clear hS
                        have hS := hHeld
                        clear hHeld
                        clear P C12 C7 r1 s1 m1 o1
                        have P := Lib.hid qP
                        have C12 := Lib.hid qC12
                        clear qP qC12
                        refine wpAnyH_ready (rs := [13]) (by kernel_rfl) (by simp) ?_
                        refine' (AllReadyH.cons ?hoc13sx12x7x2x3x8 (fun K hK => ?stc13sx12x7x2x3x8) AllReadyH.nil)
                        case hoc13sx12x7x2x3x8 => (simp only [List.getElem?_toArray, List.getElem?_cons_succ, List.getElem?_cons_zero]; rfl)
                        obtain ⟨v13, Wqx12x7x2x3x8x13, r1, s1, m1, o1⟩ := push5 P.out.bs g12 (y : Int) C12.out (by have := HNE.out; omega)
                        have qP := P.out.addB AC.out.2.2.2 (ex.fst s.f 20, k5, y) s1 m1 o1
                        have qS := And.intro ((m1.block _ (blk_lt hS.1) (P.out.bs.ty hS.1 (by decide))).trans hS.1) ((m1.block _ (blk_lt hS.2) (P.out.bs.ty hS.2 (by decide))).trans hS.2)
                        refine dk.step_app_run rfl (.tmp 61) (.tmp 64) 37 rfl rfl rfl rfl r1 ?_
                        refine hK.out _ _ qS (fun hHeld => ?_)
                        clear hK K qS
                        try simp only [Act.put, List.setIfInBounds_toArray, List.set_cons_succ, List.set_cons_zero]
                        clear hS
                        have hS := hHeld
                        clear hHeld
                        clear P C12 r1 s1 m1 o1
                        have P := Lib.hid qP
                        clear qP 
                        refine' wpAnyH_take (i := 14) ?h1x14sx12x7x2x3x8x13 ?hsx14sx12x7x2x3x8x13 ?hfx14sx12x7x2x3x8x13 ?hrx14sx12x7x2x3x8x13 ?hQx14sx12x7x2x3x8x13 (Or.inl ⟨?hwx14sx12x7x2x3x8x13, ?hyx14sx12x7x2x3x8x13⟩) hS ?restx14sx12x7x2x3x8x13
                        case h1x14sx12x7x2x3x8x13 => (simp only [List.getElem?_toArray, List.getElem?_cons_succ, List.getElem?_cons_zero]; rfl)
                        case hsx14sx12x7x2x3x8x13 | hfx14sx12x7x2x3x8x13 | hrx14sx12x7x2x3x8x13 => kernel_rfl
                        case hQx14sx12x7x2x3x8x13 => exact fun _ _ _ h => h
                        case hwx14sx12x7x2x3x8x13 => rfl
                        case hyx14sx12x7x2x3x8x13 =>
                          intro W hW
                          go_simp
                          try with_reducible rfl
                        simp only [Act.put, List.setIfInBounds_toArray, List.set_cons_succ, List.set_cons_zero]
                        refine' wpAnyH_take (i := 15) ?h1x15sx12x7x2x3x8x13 ?hsx15sx12x7x2x3x8x13 ?hfx15sx12x7x2x3x8x13 ?hrx15sx12x7x2x3x8x13 ?hQx15sx12x7x2x3x8x13 (Or.inl ⟨?hwx15sx12x7x2x3x8x13, ?hyx15sx12x7x2x3x8x13⟩) hS ?restx15sx12x7x2x3x8x13
                        case h1x15sx12x7x2x3x8x13 => (simp only [List.getElem?_toArray, List.getElem?_cons_succ, List.getElem?_cons_zero]; rfl)
                        case hsx15sx12x7x2x3x8x13 | hfx15sx12x7x2x3x8x13 | hrx15sx12x7x2x3x8x13 => kernel_rfl
                        case hQx15sx12x7x2x3x8x13 => exact fun _ _ _ h => h
                        case hwx15sx12x7x2x3x8x13 => rfl
                        case hyx15sx12x7x2x3x8x13 =>
                          intro W hW
                          go_simp
                          try with_reducible rfl
                        simp only [Act.put, List.setIfInBounds_toArray, List.set_cons_succ, List.set_cons_zero]
                        refine' wpAnyH_take (i := 16) ?h1x16sx12x7x2x3x8x13 ?hsx16sx12x7x2x3x8x13 ?hfx16sx12x7x2x3x8x13 ?hrx16sx12x7x2x3x8x13 ?hQx16sx12x7x2x3x8x13 (Or.inl ⟨?hwx16sx12x7x2x3x8x13, ?hyx16sx12x7x2x3x8x13⟩) hS ?restx16sx12x7x2x3x8x13
                        case h1x16sx12x7x2x3x8x13 => (simp only [List.getElem?_toArray, List.getElem?_cons_succ, List.getElem?_cons_zero]; rfl)
                        case hsx16sx12x7x2x3x8x13 | hfx16sx12x7x2x3x8x13 | hrx16sx12x7x2x3x8x13 => kernel_rfl
                        case hQx16sx12x7x2x3x8x13 => exact fun _ _ _ h => h
                        case hwx16sx12x7x2x3x8x13 => rfl
                        case hyx16sx12x7x2x3x8x13 =>
                          intro W hW
                          go_simp
                          try with_reducible rfl
                        simp only [Act.put, List.setIfInBounds_toArray, List.set_cons_succ, List.set_cons_zero]
                        refine wpAnyH_done (by kernel_rfl) ?_ _
                        go_wp2_with fail
                        go_meet
                        exact ⟨_, D5, s5, S5, T5, P.out.whole, hS.1, P.out.los.1, NSQ5.out⟩
              · have PT : Hid (∀ (W : World) (b4 : Nat), LS w W A lo vl vw vb E E i (100 * i) D s S T → dk.TX W (.slice (some ⟨b4, 0, none⟩) 512 512) (dk.tx y) → ¬ S b4 → Calls Tryd.prog 7 #[.pointer (some ⟨A.p, 0, none⟩), .int .i64 t', .slice (some ⟨b4, 0, none⟩) 512 512] W fun e w' => ∃ z : Int, z ≠ 0 ∧ e = .returned (.tuple #[.agg Z, .int .i64 z]) ∧ LS w w' A lo vl vw vb E E i (100 * i) D s S T ∧ dk.Mods (Oth A D S) W w') := fun W b4 hl _ _ => by
                  rw [HZE.out]
                  exact hl.full AC.out t' b4 htk
                have IC := IZ
                have OC := OZ
                clear htk
                go_upto_region 12 with fail
                refine wp_region_held_drew (S := fun W => W.heap[q]? = some (.cells #[.int .i64 k', .int .i64 t', .int .i64 a, .int .i64 n', .int .u8 (y : Int)] 52 (0, 0))) (by kernel_rfl) (((Below.refl w2.heap.size w2).drew.block _ (blk_lt X2.out)).trans X2.out) (fun hS => ?_)
                have qL := L2.out.below (Below.refl _ _).drew
                generalize w2.drew = Wr12 at hS qL ⊢
                have L := Lib.hid qL
                clear qL L2 X2
                refine' wpAnyH_take (i := 0) ?h1x0f ?hsx0f ?hfx0f ?hrx0f ?hQx0f (Or.inl ⟨?hwx0f, ?hyx0f⟩) hS ?restx0f
                case h1x0f => (simp only [List.getElem?_toArray, List.getElem?_cons_zero]; rfl)
                case hsx0f | hfx0f | hrx0f => kernel_rfl
                case hQx0f => exact fun _ _ _ h => h
                case hwx0f => rfl
                case hyx0f =>
                  intro W hW
                  go_simp
                  try with_reducible rfl
                simp only [Act.put, List.setIfInBounds_toArray, List.set_cons_succ, List.set_cons_zero]
                refine' wpAnyH_take (i := 1) ?h1x1f ?hsx1f ?hfx1f ?hrx1f ?hQx1f (Or.inl ⟨?hwx1f, ?hyx1f⟩) hS ?restx1f
                case h1x1f => (simp only [List.getElem?_toArray, List.getElem?_cons_succ, List.getElem?_cons_zero]; rfl)
                case hsx1f | hfx1f | hrx1f => kernel_rfl
                case hQx1f => exact fun _ _ _ h => h
                case hwx1f => rfl
                case hyx1f =>
                  intro W hW
                  go_simp
                  try with_reducible rfl
                simp only [Act.put, List.setIfInBounds_toArray, List.set_cons_succ, List.set_cons_zero]
                refine' wpAnyH_take (i := 3) ?h1x3f ?hsx3f ?hfx3f ?hrx3f ?hQx3f (Or.inl ⟨?hwx3f, ?hyx3f⟩) hS ?restx3f
                case h1x3f => (simp only [List.getElem?_toArray, List.getElem?_cons_succ, List.getElem?_cons_zero]; rfl)
                case hsx3f | hfx3f | hrx3f => kernel_rfl
                case hQx3f => exact fun _ _ _ h => h
                case hwx3f => rfl
                case hyx3f =>
                  intro W hW
                  go_simp
                  try with_reducible rfl
                simp only [Act.put, List.setIfInBounds_toArray, List.set_cons_succ, List.set_cons_zero]
                refine' wpAnyH_take (i := 2) ?h1x2f ?hsx2f ?hfx2f ?hrx2f ?hQx2f (Or.inl ⟨?hwx2f, ?hyx2f⟩) hS ?restx2f
                case h1x2f => (simp only [List.getElem?_toArray, List.getElem?_cons_succ, List.getElem?_cons_zero]; rfl)
                case hsx2f | hfx2f | hrx2f => kernel_rfl
                case hQx2f => exact fun _ _ _ h => h
                case hwx2f => rfl
                case hyx2f =>
                  intro W hW
                  have dd : W.cell? ⟨q, 1, none⟩ = some (.int .i64 t') := by rw [cell_row hW]; rfl
                  go_simp
                  try with_reducible rfl
                simp only [Act.put, List.setIfInBounds_toArray, List.set_cons_succ, List.set_cons_zero]
                refine' wpAnyH_take (i := 4) ?h1x4f ?hsx4f ?hfx4f ?hrx4f ?hQx4f (Or.inl ⟨?hwx4f, ?hyx4f⟩) hS ?restx4f
                case h1x4f => (simp only [List.getElem?_toArray, List.getElem?_cons_succ, List.getElem?_cons_zero]; rfl)
                case hsx4f | hfx4f | hrx4f => kernel_rfl
                case hQx4f => exact fun _ _ _ h => h
                case hwx4f => rfl
                case hyx4f =>
                  intro W hW
                  have dd : W.cell? ⟨q, 4, none⟩ = some (.int .u8 (y : Int)) := by rw [cell_row hW]; rfl
                  go_simp
                  try with_reducible rfl
                simp only [Act.put, List.setIfInBounds_toArray, List.set_cons_succ, List.set_cons_zero]
                refine wpAnyH_ready (rs := [5, 10]) (by kernel_rfl) (by simp) ?_
                refine' (AllReadyH.cons ?hoc5f (fun K hK => ?stc5f) (AllReadyH.cons ?hoc10f (fun K hK => ?stc10f) AllReadyH.nil))
                case hoc5f => (simp only [List.getElem?_toArray, List.getElem?_cons_succ, List.getElem?_cons_zero]; rfl)
                case hoc10f => (simp only [List.getElem?_toArray, List.getElem?_cons_succ, List.getElem?_cons_zero]; rfl)
                case stc5f =>
                  go_simp
                  refine (fullX y Wr12).mono ?_
                  rintro e Wfx5 ⟨b4, rfl, hv4, hl4, hb4⟩
                  have qL := L.out.below hb4
                  have NS4 : Hid (¬ S b4) := fun e => by have := L.out.pw.lg.own _ e; omega
                  have qS := (hb4.block _ (blk_lt hS)).trans hS
                  have V := Lib.hid hv4
                  clear L hb4 hl4 hv4
                  have L := Lib.hid qL
                  clear qL
                  go_wp2_with fail
                  refine hK.out _ _ qS (fun hHeld => ?_)
                  clear hK K qS
                  try simp only [Act.put, List.setIfInBounds_toArray, List.set_cons_succ, List.set_cons_zero]
                  clear hS
                  have hS := hHeld
                  clear hHeld
                  refine wpAnyH_ready (rs := [6, 10]) (by kernel_rfl) (by simp) ?_
                  refine' (AllReadyH.cons ?hoc6fx5 (fun K hK => ?stc6fx5) (AllReadyH.cons ?hoc10fx5 (fun K hK => ?stc10fx5) AllReadyH.nil))
                  case hoc6fx5 => (simp only [List.getElem?_toArray, List.getElem?_cons_succ, List.getElem?_cons_zero]; rfl)
                  case hoc10fx5 => (simp only [List.getElem?_toArray, List.getElem?_cons_succ, List.getElem?_cons_zero]; rfl)
                  case stc6fx5 =>
                    go_simp
                    refine (PT.out Wfx5 b4 L.out V.out NS4.out).mono ?_
                    rintro e Wpx5x6 ⟨z5, hz5, rfl, hl5, hm5⟩
                    have qS := (hm5.block _ (blk_lt hS) (L.out.pw.nOth52 hS NSQ.out)).trans hS
                    have hz5b : (z5 == 0) = false := by simp [hz5]
                    have K5 := Lib.hid hz5
                    have P := Lib.hid hl5
                    clear L V NS4 hl5 hm5 hz5
                    go_wp2_with fail
                    refine hK.out _ _ qS (fun hHeld => ?_)
                    clear hK K qS
                    try simp only [Act.put, List.setIfInBounds_toArray, List.set_cons_succ, List.set_cons_zero]
                    clear hS
                    have hS := hHeld
                    clear hHeld
                    refine' wpAnyH_take (i := 7) ?h1x7fx5x6 ?hsx7fx5x6 ?hfx7fx5x6 ?hrx7fx5x6 ?hQx7fx5x6 (Or.inl ⟨?hwx7fx5x6, ?hyx7fx5x6⟩) hS ?restx7fx5x6
                    case h1x7fx5x6 => (simp only [List.getElem?_toArray, List.getElem?_cons_succ, List.getElem?_cons_zero]; rfl)
                    case hsx7fx5x6 | hfx7fx5x6 | hrx7fx5x6 => kernel_rfl
                    case hQx7fx5x6 => exact fun _ _ _ h => h
                    case hwx7fx5x6 => rfl
                    case hyx7fx5x6 =>
                      intro W hW
                      go_simp
                      try with_reducible rfl
                    simp only [Act.put, List.setIfInBounds_toArray, List.set_cons_succ, List.set_cons_zero]
                    refine' wpAnyH_take (i := 8) ?h1x8fx5x6 ?hsx8fx5x6 ?hfx8fx5x6 ?hrx8fx5x6 ?hQx8fx5x6 (Or.inl ⟨?hwx8fx5x6, ?hyx8fx5x6⟩) hS ?restx8fx5x6
                    case h1x8fx5x6 => (simp only [List.getElem?_toArray, List.getElem?_cons_succ, List.getElem?_cons_zero]; rfl)
                    case hsx8fx5x6 | hfx8fx5x6 | hrx8fx5x6 => kernel_rfl
                    case hQx8fx5x6 => exact fun _ _ _ h => h
                    case hwx8fx5x6 => rfl
                    case hyx8fx5x6 =>
                      intro W hW
                      go_simp
                      try with_reducible rfl
                    simp only [Act.put, List.setIfInBounds_toArray, List.set_cons_succ, List.set_cons_zero]
                    refine' wpAnyH_take (i := 9) ?h1x9fx5x6 ?hsx9fx5x6 ?hfx9fx5x6 ?hrx9fx5x6 ?hQx9fx5x6 (Or.inl ⟨?hwx9fx5x6, ?hyx9fx5x6⟩) hS ?restx9fx5x6
                    case h1x9fx5x6 => (simp only [List.getElem?_toArray, List.getElem?_cons_succ, List.getElem?_cons_zero]; rfl)
                    case hsx9fx5x6 | hfx9fx5x6 | hrx9fx5x6 => kernel_rfl
                    case hQx9fx5x6 => exact fun _ _ _ h => h
                    case hwx9fx5x6 => rfl
                    case hyx9fx5x6 =>
                      intro W hW
                      go_simp
                      try with_reducible rfl
                    simp only [Act.put, List.setIfInBounds_toArray, List.set_cons_succ, List.set_cons_zero]
                    refine wpAnyH_ready (rs := [10]) (by kernel_rfl) (by simp) ?_
                    refine' (AllReadyH.cons ?hoc10fx5x6 (fun K hK => ?stc10fx5x6) AllReadyH.nil)
                    case hoc10fx5x6 => (simp only [List.getElem?_toArray, List.getElem?_cons_succ, List.getElem?_cons_zero]; rfl)
                    go_simp
                    have hb : Below Wpx5x6.heap.size Wpx5x6 (Wpx5x6.alloc (.cells Z 26)) := (Below.refl _ _).alloc (Nat.le_refl _) _
                    have qS := (hb.block _ (blk_lt hS)).trans hS
                    have qP := P.out.below hb
                    have qR := heap_alloc_new Wpx5x6 (.cells Z 26)
                    have nr : ¬ S Wpx5x6.heap.size := fun e => by have := P.out.pw.lg.own _ e; omega
                    have nv : vl.ownBlock ≠ some Wpx5x6.heap.size := fun e => by have := P.out.ml.l.lt _ e; omega
                    have nb : A.B ≤ Wpx5x6.heap.size := P.out.pw.bb.2
                    refine hK.out _ _ qS (fun hHeld => ?_)
                    clear hK K qS
                    try simp only [Act.put, List.setIfInBounds_toArray, List.set_cons_succ, List.set_cons_zero]
                    clear hS
                    have hS := hHeld
                    clear hHeld
                    clear hb P
                    generalize Wpx5x6.alloc (.cells Z 26) = Wax5x6x10 at *
                    generalize Wpx5x6.heap.size = g at *
                    have P := Lib.hid qP
                    have R := Lib.hid qR
                    have NR5 := Lib.hid nr
                    have NV := Lib.hid nv
                    have NB := Lib.hid nb
                    clear qP qR nr nv nb
                    refine wpAnyH_ready (rs := [11]) (by kernel_rfl) (by simp) ?_
                    refine' (AllReadyH.cons ?hoc11fx5x6x10 (fun K hK => ?stc11fx5x6x10) AllReadyH.nil)
                    case hoc11fx5x6x10 => (simp only [List.getElem?_toArray, List.getElem?_cons_succ, List.getElem?_cons_zero]; rfl)
                    refine step_store_row rfl 26 (.tmp 11) (.tmp 48) rfl g Z rfl rfl 26 _ R.out IC.out rfl OC.out ?_
                    have qP := P.out.box R.out NR5.out NB.out AC.out.2.2.2 NV.out Z
                    have qR := setRow_heap _ g _ Z _ _ R.out
                    have qS := (setRow_other Wax5x6x10 g q Z (row_ne R.out hS (by decide)).symm).trans hS
                    refine hK.out _ _ qS (fun hHeld => ?_)
                    clear hK K qS
                    simp only [Act.put]
                    clear hS
                    have hS := hHeld
                    clear hHeld
                    clear P R
                    generalize Wax5x6x10.setRow g Z = Wtx5x6x10x11 at *
                    have P := Lib.hid qP
                    have R := Lib.hid qR
                    clear qP qR
                    refine' wpAnyH_take (i := 12) ?h1x12fx5x6x10x11 ?hsx12fx5x6x10x11 ?hfx12fx5x6x10x11 ?hrx12fx5x6x10x11 ?hQx12fx5x6x10x11 (Or.inl ⟨?hwx12fx5x6x10x11, ?hyx12fx5x6x10x11⟩) hS ?restx12fx5x6x10x11
                    case h1x12fx5x6x10x11 => (simp only [List.getElem?_toArray, List.getElem?_cons_succ, List.getElem?_cons_zero]; rfl)
                    case hsx12fx5x6x10x11 | hfx12fx5x6x10x11 | hrx12fx5x6x10x11 => kernel_rfl
                    case hQx12fx5x6x10x11 => exact fun _ _ _ h => h
                    case hwx12fx5x6x10x11 => rfl
                    case hyx12fx5x6x10x11 =>
                      intro W hW
                      go_simp
                      try with_reducible rfl
                    simp only [Act.put, List.setIfInBounds_toArray, List.set_cons_succ, List.set_cons_zero]
                    refine wpAnyH_done (by kernel_rfl) ?_ _
                    go_wp2_with fail
                    go_meet
                    exact ⟨E, D, s, S, T, P.out.more (by omega) (by omega), hS, Nat.le_trans LOQ.out (Nat.le_of_lt (blk_lt hS)), NSQ.out⟩
                  case stc10fx5 =>
                    go_simp
                    have hb : Below Wfx5.heap.size Wfx5 (Wfx5.alloc (.cells Z 26)) := (Below.refl _ _).alloc (Nat.le_refl _) _
                    have qS := (hb.block _ (blk_lt hS)).trans hS
                    have qL := L.out.below hb
                    have qR := heap_alloc_new Wfx5 (.cells Z 26)
                    have nr : ¬ S Wfx5.heap.size := fun e => by have := L.out.pw.lg.own _ e; omega
                    have nv : vl.ownBlock ≠ some Wfx5.heap.size := fun e => by have := L.out.ml.l.lt _ e; omega
                    have nb : A.B ≤ Wfx5.heap.size := L.out.pw.bb.2
                    have qV := dk.TX.below V.out hb
                    refine hK.out _ _ qS (fun hHeld => ?_)
                    clear hK K qS
                    try simp only [Act.put, List.setIfInBounds_toArray, List.set_cons_succ, List.set_cons_zero]
                    clear hS
                    have hS := hHeld
                    clear hHeld
                    clear hb L V
                    generalize Wfx5.alloc (.cells Z 26) = Wax5x10 at *
                    generalize Wfx5.heap.size = g at *
                    have L := Lib.hid qL
                    have R := Lib.hid qR
                    have NR := Lib.hid nr
                    have NV := Lib.hid nv
                    have NB := Lib.hid nb
                    clear qL qR nr nv nb
                    have V := Lib.hid qV
                    clear qV
                    refine wpAnyH_ready (rs := [6]) (by kernel_rfl) (by simp) ?_
                    refine' (AllReadyH.cons ?hoc6fx5x10 (fun K hK => ?stc6fx5x10) AllReadyH.nil)
                    case hoc6fx5x10 => (simp only [List.getElem?_toArray, List.getElem?_cons_succ, List.getElem?_cons_zero]; rfl)
                    go_simp
                    refine (PT.out Wax5x10 b4 L.out V.out NS4.out).mono ?_
                    rintro e Wpx5x10x6 ⟨z5, hz5, rfl, hl5, hm5⟩
                    have qS := (hm5.block _ (blk_lt hS) (L.out.pw.nOth52 hS NSQ.out)).trans hS
                    have qR := (hm5.block _ (blk_lt R.out) (L.out.pw.nOth R.out NR.out)).trans R.out
                    have NR5 := NR
                    have hz5b : (z5 == 0) = false := by simp [hz5]
                    have K5 := Lib.hid hz5
                    have P := Lib.hid hl5
                    clear L V NS4 hl5 hm5 hz5 R NR
                    have R := Lib.hid qR
                    clear qR
                    go_wp2_with fail
                    refine hK.out _ _ qS (fun hHeld => ?_)
                    clear hK K qS
                    try simp only [Act.put, List.setIfInBounds_toArray, List.set_cons_succ, List.set_cons_zero]
                    clear hS
                    have hS := hHeld
                    clear hHeld
                    refine' wpAnyH_take (i := 7) ?h1x7fx5x10x6 ?hsx7fx5x10x6 ?hfx7fx5x10x6 ?hrx7fx5x10x6 ?hQx7fx5x10x6 (Or.inl ⟨?hwx7fx5x10x6, ?hyx7fx5x10x6⟩) hS ?restx7fx5x10x6
                    case h1x7fx5x10x6 => (simp only [List.getElem?_toArray, List.getElem?_cons_succ, List.getElem?_cons_zero]; rfl)
                    case hsx7fx5x10x6 | hfx7fx5x10x6 | hrx7fx5x10x6 => kernel_rfl
                    case hQx7fx5x10x6 => exact fun _ _ _ h => h
                    case hwx7fx5x10x6 => rfl
                    case hyx7fx5x10x6 =>
                      intro W hW
                      go_simp
                      try with_reducible rfl
                    simp only [Act.put, List.setIfInBounds_toArray, List.set_cons_succ, List.set_cons_zero]
                    refine' wpAnyH_take (i := 8) ?h1x8fx5x10x6 ?hsx8fx5x10x6 ?hfx8fx5x10x6 ?hrx8fx5x10x6 ?hQx8fx5x10x6 (Or.inl ⟨?hwx8fx5x10x6, ?hyx8fx5x10x6⟩) hS ?restx8fx5x10x6
                    case h1x8fx5x10x6 => (simp only [List.getElem?_toArray, List.getElem?_cons_succ, List.getElem?_cons_zero]; rfl)
                    case hsx8fx5x10x6 | hfx8fx5x10x6 | hrx8fx5x10x6 => kernel_rfl
                    case hQx8fx5x10x6 => exact fun _ _ _ h => h
                    case hwx8fx5x10x6 => rfl
                    case hyx8fx5x10x6 =>
                      intro W hW
                      go_simp
                      try with_reducible rfl
                    simp only [Act.put, List.setIfInBounds_toArray, List.set_cons_succ, List.set_cons_zero]
                    refine' wpAnyH_take (i := 9) ?h1x9fx5x10x6 ?hsx9fx5x10x6 ?hfx9fx5x10x6 ?hrx9fx5x10x6 ?hQx9fx5x10x6 (Or.inl ⟨?hwx9fx5x10x6, ?hyx9fx5x10x6⟩) hS ?restx9fx5x10x6
                    case h1x9fx5x10x6 => (simp only [List.getElem?_toArray, List.getElem?_cons_succ, List.getElem?_cons_zero]; rfl)
                    case hsx9fx5x10x6 | hfx9fx5x10x6 | hrx9fx5x10x6 => kernel_rfl
                    case hQx9fx5x10x6 => exact fun _ _ _ h => h
                    case hwx9fx5x10x6 => rfl
                    case hyx9fx5x10x6 =>
                      intro W hW
                      go_simp
                      try with_reducible rfl
                    simp only [Act.put, List.setIfInBounds_toArray, List.set_cons_succ, List.set_cons_zero]
                    refine wpAnyH_ready (rs := [11]) (by kernel_rfl) (by simp) ?_
                    refine' (AllReadyH.cons ?hoc11fx5x10x6 (fun K hK => ?stc11fx5x10x6) AllReadyH.nil)
                    case hoc11fx5x10x6 => (simp only [List.getElem?_toArray, List.getElem?_cons_succ, List.getElem?_cons_zero]; rfl)
                    refine step_store_row rfl 26 (.tmp 11) (.tmp 48) rfl g Z rfl rfl 26 _ R.out IC.out rfl OC.out ?_
                    have qP := P.out.box R.out NR5.out NB.out AC.out.2.2.2 NV.out Z
                    have qR := setRow_heap _ g _ Z _ _ R.out
                    have qS := (setRow_other Wpx5x10x6 g q Z (row_ne R.out hS (by decide)).symm).trans hS
                    refine hK.out _ _ qS (fun hHeld => ?_)
                    clear hK K qS
                    simp only [Act.put]
                    clear hS
                    have hS := hHeld
                    clear hHeld
                    clear P R
                    generalize Wpx5x10x6.setRow g Z = Wtx5x10x6x11 at *
                    have P := Lib.hid qP
                    have R := Lib.hid qR
                    clear qP qR
                    refine' wpAnyH_take (i := 12) ?h1x12fx5x10x6x11 ?hsx12fx5x10x6x11 ?hfx12fx5x10x6x11 ?hrx12fx5x10x6x11 ?hQx12fx5x10x6x11 (Or.inl ⟨?hwx12fx5x10x6x11, ?hyx12fx5x10x6x11⟩) hS ?restx12fx5x10x6x11
                    case h1x12fx5x10x6x11 => (simp only [List.getElem?_toArray, List.getElem?_cons_succ, List.getElem?_cons_zero]; rfl)
                    case hsx12fx5x10x6x11 | hfx12fx5x10x6x11 | hrx12fx5x10x6x11 => kernel_rfl
                    case hQx12fx5x10x6x11 => exact fun _ _ _ h => h
                    case hwx12fx5x10x6x11 => rfl
                    case hyx12fx5x10x6x11 =>
                      intro W hW
                      go_simp
                      try with_reducible rfl
                    simp only [Act.put, List.setIfInBounds_toArray, List.set_cons_succ, List.set_cons_zero]
                    refine wpAnyH_done (by kernel_rfl) ?_ _
                    go_wp2_with fail
                    go_meet
                    exact ⟨E, D, s, S, T, P.out.more (by omega) (by omega), hS, Nat.le_trans LOQ.out (Nat.le_of_lt (blk_lt hS)), NSQ.out⟩
                case stc10f =>
                  go_simp
                  have hb : Below Wr12.heap.size Wr12 (Wr12.alloc (.cells Z 26)) := (Below.refl _ _).alloc (Nat.le_refl _) _
                  have qS := (hb.block _ (blk_lt hS)).trans hS
                  have qL := L.out.below hb
                  have qR := heap_alloc_new Wr12 (.cells Z 26)
                  have nr : ¬ S Wr12.heap.size := fun e => by have := L.out.pw.lg.own _ e; omega
                  have nv : vl.ownBlock ≠ some Wr12.heap.size := fun e => by have := L.out.ml.l.lt _ e; omega
                  have nb : A.B ≤ Wr12.heap.size := L.out.pw.bb.2
                  refine hK.out _ _ qS (fun hHeld => ?_)
                  clear hK K qS
                  try simp only [Act.put, List.setIfInBounds_toArray, List.set_cons_succ, List.set_cons_zero]
                  clear hS
                  have hS := hHeld
                  clear hHeld
                  clear hb L
                  generalize Wr12.alloc (.cells Z 26) = Wax10 at *
                  generalize Wr12.heap.size = g at *
                  have L := Lib.hid qL
                  have R := Lib.hid qR
                  have NR := Lib.hid nr
                  have NV := Lib.hid nv
                  have NB := Lib.hid nb
                  clear qL qR nr nv nb
                  refine wpAnyH_ready (rs := [5]) (by kernel_rfl) (by simp) ?_
                  refine' (AllReadyH.cons ?hoc5fx10 (fun K hK => ?stc5fx10) AllReadyH.nil)
                  case hoc5fx10 => (simp only [List.getElem?_toArray, List.getElem?_cons_succ, List.getElem?_cons_zero]; rfl)
                  go_simp
                  refine (fullX y Wax10).mono ?_
                  rintro e Wfx10x5 ⟨b4, rfl, hv4, hl4, hb4⟩
                  have qL := L.out.below hb4
                  have NS4 : Hid (¬ S b4) := fun e => by have := L.out.pw.lg.own _ e; omega
                  have qS := (hb4.block _ (blk_lt hS)).trans hS
                  have qR := (hb4.block _ (blk_lt R.out)).trans R.out
                  have V := Lib.hid hv4
                  clear L hb4 hl4 hv4 R
                  have L := Lib.hid qL
                  clear qL
                  have R := Lib.hid qR
                  clear qR
                  go_wp2_with fail
                  refine hK.out _ _ qS (fun hHeld => ?_)
                  clear hK K qS
                  try simp only [Act.put, List.setIfInBounds_toArray, List.set_cons_succ, List.set_cons_zero]
                  clear hS
                  have hS := hHeld
                  clear hHeld
                  refine wpAnyH_ready (rs := [6]) (by kernel_rfl) (by simp) ?_
                  refine' (AllReadyH.cons ?hoc6fx10x5 (fun K hK => ?stc6fx10x5) AllReadyH.nil)
                  case hoc6fx10x5 => (simp only [List.getElem?_toArray, List.getElem?_cons_succ, List.getElem?_cons_zero]; rfl)
                  go_simp
                  refine (PT.out Wfx10x5 b4 L.out V.out NS4.out).mono ?_
                  rintro e Wpx10x5x6 ⟨z5, hz5, rfl, hl5, hm5⟩
                  have qS := (hm5.block _ (blk_lt hS) (L.out.pw.nOth52 hS NSQ.out)).trans hS
                  have qR := (hm5.block _ (blk_lt R.out) (L.out.pw.nOth R.out NR.out)).trans R.out
                  have NR5 := NR
                  have hz5b : (z5 == 0) = false := by simp [hz5]
                  have K5 := Lib.hid hz5
                  have P := Lib.hid hl5
                  clear L V NS4 hl5 hm5 hz5 R NR
                  have R := Lib.hid qR
                  clear qR
                  go_wp2_with fail
                  refine hK.out _ _ qS (fun hHeld => ?_)
                  clear hK K qS
                  try simp only [Act.put, List.setIfInBounds_toArray, List.set_cons_succ, List.set_cons_zero]
                  clear hS
                  have hS := hHeld
                  clear hHeld
                  refine' wpAnyH_take (i := 7) ?h1x7fx10x5x6 ?hsx7fx10x5x6 ?hfx7fx10x5x6 ?hrx7fx10x5x6 ?hQx7fx10x5x6 (Or.inl ⟨?hwx7fx10x5x6, ?hyx7fx10x5x6⟩) hS ?restx7fx10x5x6
                  case h1x7fx10x5x6 => (simp only [List.getElem?_toArray, List.getElem?_cons_succ, List.getElem?_cons_zero]; rfl)
                  case hsx7fx10x5x6 | hfx7fx10x5x6 | hrx7fx10x5x6 => kernel_rfl
                  case hQx7fx10x5x6 => exact fun _ _ _ h => h
                  case hwx7fx10x5x6 => rfl
                  case hyx7fx10x5x6 =>
                    intro W hW
                    go_simp
                    try with_reducible rfl
                  simp only [Act.put, List.setIfInBounds_toArray, List.set_cons_succ, List.set_cons_zero]
                  refine' wpAnyH_take (i := 8) ?h1x8fx10x5x6 ?hsx8fx10x5x6 ?hfx8fx10x5x6 ?hrx8fx10x5x6 ?hQx8fx10x5x6 (Or.inl ⟨?hwx8fx10x5x6, ?hyx8fx10x5x6⟩) hS ?restx8fx10x5x6
                  case h1x8fx10x5x6 => (simp only [List.getElem?_toArray, List.getElem?_cons_succ, List.getElem?_cons_zero]; rfl)
                  case hsx8fx10x5x6 | hfx8fx10x5x6 | hrx8fx10x5x6 => kernel_rfl
                  case hQx8fx10x5x6 => exact fun _ _ _ h => h
                  case hwx8fx10x5x6 => rfl
                  case hyx8fx10x5x6 =>
                    intro W hW
                    go_simp
                    try with_reducible rfl
                  simp only [Act.put, List.setIfInBounds_toArray, List.set_cons_succ, List.set_cons_zero]
                  refine' wpAnyH_take (i := 9) ?h1x9fx10x5x6 ?hsx9fx10x5x6 ?hfx9fx10x5x6 ?hrx9fx10x5x6 ?hQx9fx10x5x6 (Or.inl ⟨?hwx9fx10x5x6, ?hyx9fx10x5x6⟩) hS ?restx9fx10x5x6
                  case h1x9fx10x5x6 => (simp only [List.getElem?_toArray, List.getElem?_cons_succ, List.getElem?_cons_zero]; rfl)
                  case hsx9fx10x5x6 | hfx9fx10x5x6 | hrx9fx10x5x6 => kernel_rfl
                  case hQx9fx10x5x6 => exact fun _ _ _ h => h
                  case hwx9fx10x5x6 => rfl
                  case hyx9fx10x5x6 =>
                    intro W hW
                    go_simp
                    try with_reducible rfl
                  simp only [Act.put, List.setIfInBounds_toArray, List.set_cons_succ, List.set_cons_zero]
                  refine wpAnyH_ready (rs := [11]) (by kernel_rfl) (by simp) ?_
                  refine' (AllReadyH.cons ?hoc11fx10x5x6 (fun K hK => ?stc11fx10x5x6) AllReadyH.nil)
                  case hoc11fx10x5x6 => (simp only [List.getElem?_toArray, List.getElem?_cons_succ, List.getElem?_cons_zero]; rfl)
                  refine step_store_row rfl 26 (.tmp 11) (.tmp 48) rfl g Z rfl rfl 26 _ R.out IC.out rfl OC.out ?_
                  have qP := P.out.box R.out NR5.out NB.out AC.out.2.2.2 NV.out Z
                  have qR := setRow_heap _ g _ Z _ _ R.out
                  have qS := (setRow_other Wpx10x5x6 g q Z (row_ne R.out hS (by decide)).symm).trans hS
                  refine hK.out _ _ qS (fun hHeld => ?_)
                  clear hK K qS
                  simp only [Act.put]
                  clear hS
                  have hS := hHeld
                  clear hHeld
                  clear P R
                  generalize Wpx10x5x6.setRow g Z = Wtx10x5x6x11 at *
                  have P := Lib.hid qP
                  have R := Lib.hid qR
                  clear qP qR
                  refine' wpAnyH_take (i := 12) ?h1x12fx10x5x6x11 ?hsx12fx10x5x6x11 ?hfx12fx10x5x6x11 ?hrx12fx10x5x6x11 ?hQx12fx10x5x6x11 (Or.inl ⟨?hwx12fx10x5x6x11, ?hyx12fx10x5x6x11⟩) hS ?restx12fx10x5x6x11
                  case h1x12fx10x5x6x11 => (simp only [List.getElem?_toArray, List.getElem?_cons_succ, List.getElem?_cons_zero]; rfl)
                  case hsx12fx10x5x6x11 | hfx12fx10x5x6x11 | hrx12fx10x5x6x11 => kernel_rfl
                  case hQx12fx10x5x6x11 => exact fun _ _ _ h => h
                  case hwx12fx10x5x6x11 => rfl
                  case hyx12fx10x5x6x11 =>
                    intro W hW
                    go_simp
                    try with_reducible rfl
                  simp only [Act.put, List.setIfInBounds_toArray, List.set_cons_succ, List.set_cons_zero]
                  refine wpAnyH_done (by kernel_rfl) ?_ _
                  go_wp2_with fail
                  go_meet
                  exact ⟨E, D, s, S, T, P.out.more (by omega) (by omega), hS, Nat.le_trans LOQ.out (Nat.le_of_lt (blk_lt hS)), NSQ.out⟩
            · have hkb : (k' == 0) = false := by simp [hk0]
              go_wp2_with fail
              go_meet
              exact ⟨E, D, s, S, T, L2.out.more (by omega) (by omega), X2.out, LO2.out, NSQ.out⟩
        case rest =>
          as_aux_lemma =>
            clear L2 X2 NSQ LO2
            obtain ⟨E3, D3, s3, S3, T3, hl3, hx3, hlo3, hn3⟩ := hcut
            obtain ⟨xl, cl, hvl, hl1, hl2⟩ := hl3.ml.l.form
            obtain ⟨xw, cw, hvw, hw1, hw2⟩ := hl3.ml.wh.form
            subst hvl hvw
            have hnl : E3.length ≤ 61 := by have := hl3.n; omega
            have L3 := Lib.hid hl3
            have X3 := Lib.hid hx3
            have LO3 := Lib.hid hlo3
            have f0 : wc.cell? ⟨q, 0, none⟩ = some (.int .i64 k') := by rw [cell_row hx3]; rfl
            have f2 : wc.cell? ⟨q, 2, none⟩ = some (.int .i64 a) := by rw [cell_row hx3]; rfl
            have NSQ3 := Lib.hid hn3
            clear hl3 hx3 hlo3 hn3
            go_upto_region 15 with fail
            go_cut [88] (fun v wx => wx = wc ∧ (v = .bool false ∨ v = .bool true ∧ OKP k' a E3))
            case first =>
              as_aux_lemma =>
                by_cases hk2 : k' = 2
                · have hkb : (k' == 2) = true := by simp [hk2]
                  by_cases h0 : 0 ≤ a
                  · by_cases hln : a < (E3.length : Int)
                    · obtain ⟨k, rfl⟩ : ∃ k : Nat, a = k := ⟨a.toNat, by omega⟩
                      have hkl : k < E3.length := by omega
                      obtain ⟨⟨n6, t6, y6⟩, hE⟩ : ∃ e, E3[k]? = some e := ⟨_, List.getElem?_eq_getElem hkl⟩
                      obtain ⟨bw, ow, rfl, hcw, hfw⟩ := L3.out.ml.wh.cell (flw_at hE)
                      simp only at hcw
                      by_cases ht6 : t6 = 0
                      · subst ht6
                        go_wp2_with fail
                        go_meet
                        exact ⟨rfl, .inl rfl⟩
                      · have htp : 0 < (t6 : Int) := by omega
                        have HE := Lib.hid hE
                        clear hE
                        go_wp2_with fail
                        go_meet
                        exact ⟨rfl, .inr ⟨congrArg Value.bool (decide_eq_true (by omega)), hk2, k, rfl, n6, t6, y6, HE.out, ht6⟩⟩
                    · go_wp2_with fail
                      go_meet
                      exact ⟨rfl, .inl rfl⟩
                  · go_wp2_with fail
                    go_meet
                    exact ⟨rfl, .inl rfl⟩
                · have hkb : (k' == 2) = false := by simp [hk2]
                  go_wp2_with fail
                  go_meet
                  exact ⟨rfl, .inl rfl⟩
            case rest =>
              as_aux_lemma =>
                obtain ⟨rfl, hcv⟩ := hcut
                have HCV := Lib.hid hcv
                clear hcv f0 f2
                go_upto_if 88 with fail
                go_cut [7] (fun v7 wx => ∃ (E : List En) (s : ex.St), LS w wx A lo (.slice xl E3.length cl) v7 u8 E E (i + 1) (100 * i + 1) D3 s S3 T3 ∧ E.length = E3.length ∧ lo ≤ wx.heap.size)
                case first =>
                  as_aux_lemma =>
                    rcases HCV.out with hf | ⟨hf, hk2, k, hak, n6, t6, y6, hE, ht6⟩
                    · subst hf
                      clear HCV
                      go_wp2_with fail
                      go_meet
                      exact ⟨E3, s3, L3.out, rfl, LO3.out⟩
                    · subst hf hak
                      clear HCV
                      have hkl : k < E3.length := (List.getElem?_eq_some_iff.1 hE).1
                      obtain ⟨bw, ow, rfl, hcw, hfw⟩ := L3.out.ml.wh.cell (flw_at hE)
                      simp only at hcw
                      obtain ⟨bl, ol, rfl, hcl, _⟩ := L3.out.ml.l.cell ((flr_at E3 k (n6, t6, y6) 0 (fun e he => (L3.out.jn.lt e he).2.2) hE (by omega)).trans rfl)
                      rw [Nat.add_zero] at hcl
                      obtain ⟨csw, hsw⟩ := Rw.row L3.out.ml.wh bw rfl
                      obtain ⟨csl, hsl⟩ := Rw.row L3.out.ml.l bl rfl
                      have ccw := (cell_row hsw (ow + k)).symm.trans hcw
                      have ccl := (cell_row hsl (ol + k * 33)).symm.trans hcl
                      have HE := Lib.hid hE
                      have CW := Lib.hid ccw
                      have CL := Lib.hid ccl
                      have SW := Lib.hid hsw
                      have SL := Lib.hid hsl
                      have HT6 := Lib.hid ht6
                      have HK2 := Lib.hid hk2
                      clear hcw hfw hcl ccw ccl hsw hsl hE ht6 hk2
                      go_upto_region 16 with fail
                      have qX : wc.drew.heap[q]? = _ := ((Below.refl wc.heap.size wc).drew.block _ (blk_lt X3.out)).trans X3.out
                      have qW : wc.drew.heap[bw]? = _ := ((Below.refl wc.heap.size wc).drew.block _ (blk_lt SW.out)).trans SW.out
                      have qR : wc.drew.heap[bl]? = _ := ((Below.refl wc.heap.size wc).drew.block _ (blk_lt SL.out)).trans SL.out
                      refine wp_region_held_drew (S := fun W => W.heap[q]? = some (.cells #[.int .i64 k', .int .i64 t', .int .i64 (k : Int), .int .i64 n', .int .u8 (y : Int)] 52 (0, 0)) ∧ W.heap[bw]? = some (.cells csw 3 (0, 0)) ∧ W.heap[bl]? = some (.cells csl 26 (0, 0))) (by kernel_rfl) ⟨qX, qW, qR⟩ (fun hS => ?_)
                      have qP := L3.out.below (Below.refl _ _).drew
                      clear qX qW qR
                      generalize wc.drew = Wr16 at hS qP ⊢
                      have L3' := Lib.hid qP
                      clear qP L3 X3 SW SL
                      refine' wpAnyH_take (i := 0) ?h1x0t ?hsx0t ?hfx0t ?hrx0t ?hQx0t (Or.inl ⟨?hwx0t, ?hyx0t⟩) hS ?restx0t
                      case h1x0t => (simp only [List.getElem?_toArray, List.getElem?_cons_zero]; rfl)
                      case hsx0t | hfx0t | hrx0t => kernel_rfl
                      case hQx0t => exact fun _ _ _ h => h
                      case hwx0t => rfl
                      case hyx0t =>
                        intro W hW
                        go_simp
                        try with_reducible rfl
                      simp only [Act.put, List.setIfInBounds_toArray, List.set_cons_succ, List.set_cons_zero]
                      refine' wpAnyH_take (i := 2) ?h1x2t ?hsx2t ?hfx2t ?hrx2t ?hQx2t (Or.inl ⟨?hwx2t, ?hyx2t⟩) hS ?restx2t
                      case h1x2t => (simp only [List.getElem?_toArray, List.getElem?_cons_succ, List.getElem?_cons_zero]; rfl)
                      case hsx2t | hfx2t | hrx2t => kernel_rfl
                      case hQx2t => exact fun _ _ _ h => h
                      case hwx2t => rfl
                      case hyx2t =>
                        intro W hW
                        go_simp
                        try with_reducible rfl
                      simp only [Act.put, List.setIfInBounds_toArray, List.set_cons_succ, List.set_cons_zero]
                      refine' wpAnyH_take (i := 3) ?h1x3t ?hsx3t ?hfx3t ?hrx3t ?hQx3t (Or.inl ⟨?hwx3t, ?hyx3t⟩) hS ?restx3t
                      case h1x3t => (simp only [List.getElem?_toArray, List.getElem?_cons_succ, List.getElem?_cons_zero]; rfl)
                      case hsx3t | hfx3t | hrx3t => kernel_rfl
                      case hQx3t => exact fun _ _ _ h => h
                      case hwx3t => rfl
                      case hyx3t =>
                        intro W hW
                        go_simp
                        try with_reducible rfl
                      simp only [Act.put, List.setIfInBounds_toArray, List.set_cons_succ, List.set_cons_zero]
                      refine' wpAnyH_take (i := 7) ?h1x7t ?hsx7t ?hfx7t ?hrx7t ?hQx7t (Or.inl ⟨?hwx7t, ?hyx7t⟩) hS ?restx7t
                      case h1x7t => (simp only [List.getElem?_toArray, List.getElem?_cons_succ, List.getElem?_cons_zero]; rfl)
                      case hsx7t | hfx7t | hrx7t => kernel_rfl
                      case hQx7t => exact fun _ _ _ h => h
                      case hwx7t => rfl
                      case hyx7t =>
                        intro W hW
                        go_simp
                        try with_reducible rfl
                      simp only [Act.put, List.setIfInBounds_toArray, List.set_cons_succ, List.set_cons_zero]
                      refine' wpAnyH_take (i := 8) ?h1x8t ?hsx8t ?hfx8t ?hrx8t ?hQx8t (Or.inl ⟨?hwx8t, ?hyx8t⟩) hS ?restx8t
                      case h1x8t => (simp only [List.getElem?_toArray, List.getElem?_cons_succ, List.getElem?_cons_zero]; rfl)
                      case hsx8t | hfx8t | hrx8t => kernel_rfl
                      case hQx8t => exact fun _ _ _ h => h
                      case hwx8t => rfl
                      case hyx8t =>
                        intro W hW
                        go_simp
                        try with_reducible rfl
                      simp only [Act.put, List.setIfInBounds_toArray, List.set_cons_succ, List.set_cons_zero]
                      refine' wpAnyH_take (i := 4) ?h1x4t ?hsx4t ?hfx4t ?hrx4t ?hQx4t (Or.inl ⟨?hwx4t, ?hyx4t⟩) hS ?restx4t
                      case h1x4t => (simp only [List.getElem?_toArray, List.getElem?_cons_succ, List.getElem?_cons_zero]; rfl)
                      case hsx4t | hfx4t | hrx4t => kernel_rfl
                      case hQx4t => exact fun _ _ _ h => h
                      case hwx4t => rfl
                      case hyx4t =>
                        intro W hW
                        have dd : W.cell? ⟨q, 2, none⟩ = some (.int .i64 (k : Int)) := by rw [cell_row hW.1]; rfl
                        go_simp
                        try with_reducible rfl
                      simp only [Act.put, List.setIfInBounds_toArray, List.set_cons_succ, List.set_cons_zero]
                      refine' wpAnyH_take (i := 9) ?h1x9t ?hsx9t ?hfx9t ?hrx9t ?hQx9t (Or.inl ⟨?hwx9t, ?hyx9t⟩) hS ?restx9t
                      case h1x9t => (simp only [List.getElem?_toArray, List.getElem?_cons_succ, List.getElem?_cons_zero]; rfl)
                      case hsx9t | hfx9t | hrx9t => kernel_rfl
                      case hQx9t => exact fun _ _ _ h => h
                      case hwx9t => rfl
                      case hyx9t =>
                        intro W hW
                        have dd : W.cell? ⟨q, 2, none⟩ = some (.int .i64 (k : Int)) := by rw [cell_row hW.1]; rfl
                        go_simp
                        try with_reducible rfl
                      simp only [Act.put, List.setIfInBounds_toArray, List.set_cons_succ, List.set_cons_zero]
                      refine' wpAnyH_take (i := 5) ?h1x5t ?hsx5t ?hfx5t ?hrx5t ?hQx5t (Or.inl ⟨?hwx5t, ?hyx5t⟩) hS ?restx5t
                      case h1x5t => (simp only [List.getElem?_toArray, List.getElem?_cons_succ, List.getElem?_cons_zero]; rfl)
                      case hsx5t | hfx5t | hrx5t => kernel_rfl
                      case hQx5t => exact fun _ _ _ h => h
                      case hwx5t => rfl
                      case hyx5t =>
                        intro W hW
                        go_simp
                        try with_reducible rfl
                      simp only [Act.put, List.setIfInBounds_toArray, List.set_cons_succ, List.set_cons_zero]
                      refine' wpAnyH_take (i := 10) ?h1x10t ?hsx10t ?hfx10t ?hrx10t ?hQx10t (Or.inl ⟨?hwx10t, ?hyx10t⟩) hS ?restx10t
                      case h1x10t => (simp only [List.getElem?_toArray, List.getElem?_cons_succ, List.getElem?_cons_zero]; rfl)
                      case hsx10t | hfx10t | hrx10t => kernel_rfl
                      case hQx10t => exact fun _ _ _ h => h
                      case hwx10t => rfl
                      case hyx10t =>
                        intro W hW
                        go_simp
                        try with_reducible rfl
                      simp only [Act.put, List.setIfInBounds_toArray, List.set_cons_succ, List.set_cons_zero]
                      refine' wpAnyH_take (i := 6) ?h1x6t ?hsx6t ?hfx6t ?hrx6t ?hQx6t (Or.inl ⟨?hwx6t, ?hyx6t⟩) hS ?restx6t
                      case h1x6t => (simp only [List.getElem?_toArray, List.getElem?_cons_succ, List.getElem?_cons_zero]; rfl)
                      case hsx6t | hfx6t | hrx6t => kernel_rfl
                      case hQx6t => exact fun _ _ _ h => h
                      case hwx6t => rfl
                      case hyx6t =>
                        intro W hW
                        have dd := (cell_row hW.2.1 (ow + k)).trans CW.out
                        go_simp
                        try with_reducible rfl
                      simp only [Act.put, List.setIfInBounds_toArray, List.set_cons_succ, List.set_cons_zero]
                      refine' wpAnyH_take (i := 11) ?h1x11t ?hsx11t ?hfx11t ?hrx11t ?hQx11t (Or.inl ⟨?hwx11t, ?hyx11t⟩) hS ?restx11t
                      case h1x11t => (simp only [List.getElem?_toArray, List.getElem?_cons_succ, List.getElem?_cons_zero]; rfl)
                      case hsx11t | hfx11t | hrx11t => kernel_rfl
                      case hQx11t => exact fun _ _ _ h => h
                      case hwx11t => rfl
                      case hyx11t =>
                        intro W hW
                        go_simp
                        try with_reducible rfl
                      simp only [Act.put, List.setIfInBounds_toArray, List.set_cons_succ, List.set_cons_zero]
                      refine' wpAnyH_take (i := 12) ?h1x12t ?hsx12t ?hfx12t ?hrx12t ?hQx12t (Or.inl ⟨?hwx12t, ?hyx12t⟩) hS ?restx12t
                      case h1x12t => (simp only [List.getElem?_toArray, List.getElem?_cons_succ, List.getElem?_cons_zero]; rfl)
                      case hsx12t | hfx12t | hrx12t => kernel_rfl
                      case hQx12t => exact fun _ _ _ h => h
                      case hwx12t => rfl
                      case hyx12t =>
                        intro W hW
                        have dd := (cell_row hW.2.2 (ol + k * 33)).trans CL.out
                        go_simp
                        try with_reducible rfl
                      simp only [Act.put, List.setIfInBounds_toArray, List.set_cons_succ, List.set_cons_zero]
                      refine wpAnyH_ready (rs := [1]) (by kernel_rfl) (by simp) ?_
                      refine' (AllReadyH.cons ?hoc1t (fun K hK => ?stc1t) AllReadyH.nil)
                      case hoc1t => (simp only [List.getElem?_toArray, List.getElem?_cons_succ, List.getElem?_cons_zero]; rfl)
                      go_simp
                      refine (field L3'.out.pw.pool).mono ?_
                      rintro e w' ⟨rfl, rfl⟩
                      go_wp2_with fail
                      refine hK.out _ _ hS (fun hHeld => ?_)
                      clear hK K
                      try simp only [Act.put, List.setIfInBounds_toArray, List.set_cons_succ, List.set_cons_zero]
                      clear hS
                      have hS := hHeld
                      clear hHeld
                      refine wpAnyH_ready (rs := [13]) (by kernel_rfl) (by simp) ?_
                      refine' (AllReadyH.cons ?hoc13tx1 (fun K hK => ?stc13tx1) AllReadyH.nil)
                      case hoc13tx1 => (simp only [List.getElem?_toArray, List.getElem?_cons_succ, List.getElem?_cons_zero]; rfl)
                      go_simp
                      refine (L3'.out.drop AC.out k n6 t6 y6 HE.out HT6.out).mono ?_
                      rintro e Wdx1x13 ⟨s6, rfl, hl6, hm6⟩
                      have qS := And.intro ((hm6.block _ (blk_lt hS.1) (L3'.out.pw.nOth52 hS.1 NSQ3.out)).trans hS.1) (And.intro ((hm6.block _ (blk_lt hS.2.1) (L3'.out.pw.nOth3 hS.2.1 (L3'.out.ml.own bw (.inr (.inl rfl))).2)).trans hS.2.1) ((hm6.block _ (blk_lt hS.2.2) (L3'.out.pw.nOth hS.2.2 (L3'.out.ml.own bl (.inl rfl)).2)).trans hS.2.2))
                      have L6 := Lib.hid hl6
                      have Z6 : Hid (Wr16.heap.size ≤ Wdx1x13.heap.size) := hm6.size
                      clear hl6 hm6 L3'
                      go_wp2_with fail
                      refine hK.out _ _ qS (fun hHeld => ?_)
                      clear hK K qS
                      try simp only [Act.put, List.setIfInBounds_toArray, List.set_cons_succ, List.set_cons_zero]
                      clear hS
                      have hS := hHeld
                      clear hHeld
                      refine' wpAnyH_take (i := 14) ?h1x14tx1x13 ?hsx14tx1x13 ?hfx14tx1x13 ?hrx14tx1x13 ?hQx14tx1x13 (Or.inl ⟨?hwx14tx1x13, ?hyx14tx1x13⟩) hS ?restx14tx1x13
                      case h1x14tx1x13 => (simp only [List.getElem?_toArray, List.getElem?_cons_succ, List.getElem?_cons_zero]; rfl)
                      case hsx14tx1x13 | hfx14tx1x13 | hrx14tx1x13 => kernel_rfl
                      case hQx14tx1x13 => exact fun _ _ _ h => h
                      case hwx14tx1x13 => rfl
                      case hyx14tx1x13 =>
                        intro W hW
                        go_simp
                        try with_reducible rfl
                      simp only [Act.put, List.setIfInBounds_toArray, List.set_cons_succ, List.set_cons_zero]
                      refine wpAnyH_done (by kernel_rfl) ?_ _
                      have w1 := (cell_row hS.2.1 (ow + k)).trans CW.out
                      have w2' : Wdx1x13.frozen? ⟨bw, ow + k, none⟩ = false := by simp [World.frozen?, hS.2.1]
                      have w3' : Wdx1x13.cell? ⟨q, 2, none⟩ = some (.int .i64 (k : Int)) := by rw [cell_row hS.1]; rfl
                      go_wp2_with fail
                      go_meet
                      exact ⟨E3.set k (n6, 0, y6), s6, L6.out.zero AC.out.2.2.2 GB.out HE.out, List.length_set, by have := blk_lt hS.1; have := LOQ.out; simp only [World.setCell, Array.size_modify]; omega⟩
                case rest =>
                  as_aux_lemma =>
                    clear L3 X3 LO3 NSQ3
                    obtain ⟨E4, s4, hl4, he4, hlo4⟩ := hcut
                    obtain ⟨x7, c7, h7, _, _⟩ := hl4.ml.wh.form
                    obtain ⟨x8, c8, h8, _, _⟩ := hl4.ml.b.form
                    subst h7 h8
                    have L4 := Lib.hid hl4
                    have LO4 := Lib.hid hlo4
                    have HE4 := Lib.hid he4
                    have HN4 : Hid (E4.length ≤ 61) := by show _ ≤ _; rw [HE4.out]; exact hnl
                    clear hl4 hlo4 he4
                    go_wp2_with fail
                    go_loopg [13, 14, 15] E3.length (fun r vk _ _ wx => ∃ (k : Nat) (S : Nat → Prop) (T : List (List Int)), r + k = E3.length ∧ vk = .int .i64 k ∧ LS w wx A lo (.slice xl E3.length cl) (.slice x7 E4.length c7) (.slice x8 E4.length c8) E4 E4 (i + 1) (100 * i + 1 + k) D3 s4 S T ∧ lo ≤ wx.heap.size)
                    case atStart => exact ⟨0, S3, T3, by omega, rfl, L4.out, LO4.out⟩
                    case round =>
                      clear L4 LO4
                      obtain ⟨k, S5, T5, hr5, rfl, hl5, hlo5⟩ := hrel
                      have HR5 := Lib.hid hr5
                      have L5 := Lib.hid hl5
                      have LO5 := Lib.hid hlo5
                      clear hr5 hl5 hlo5
                      by_cases hkl : k < E3.length
                      · obtain ⟨⟨n7, t7, y7⟩, hE7⟩ : ∃ e, E4[k]? = some e := ⟨_, List.getElem?_eq_getElem (by have := HE4.out; omega)⟩
                        have hk4 : k < E4.length := by have := HE4.out; omega
                        obtain ⟨b7, o7, rfl, hc7, hf7⟩ := L5.out.ml.wh.cell (flw_at hE7)
                        simp only at hc7
                        have HE7 := Lib.hid hE7
                        clear hE7 hf7
                        by_cases ht7 : t7 = 0
                        · subst ht7
                          go_wp2_with fail
                          go_roundg (E3.length - (k + 1))
                          case measure => have := HR5.out; omega
                          case rel => exact ⟨k + 1, S5, T5, by omega, by go_num, L5.out.more (Nat.le_refl _) (by omega), LO5.out⟩
                        · have htb : ((t7 : Int) == 0) = false := by simp [ht7]
                          have HT7 := Lib.hid ht7
                          have HY7 : Hid (y7 < 256) := (L5.out.jn.lt _ (List.mem_of_getElem? HE7.out)).2.2
                          obtain ⟨Cl, hCl⟩ : ∃ Cl, Cl = rl n7 (hl.sha (bI y7)) := ⟨_, rfl⟩
                          have LN : Hid (Cl.length = 33) := by show _ = _; rw [hCl]; exact rl_len _ (hl.sha_len _ (bI_byt HY7.out))
                          have g7 := L5.out.get AC.out k n7 t7 y7 HE7.out HT7.out (by have := HR5.out; have := HN4.out; have := HR.out; omega)
                          rw [← hCl] at g7
                          have GET := Lib.hid g7
                          have hat := flr_at E4 k (n7, t7, y7)
                          have hcl0 := flr_at E4 k (n7, t7, y7) 0 (fun e he => (L5.out.jn.lt e he).2.2) HE7.out (by omega)
                          have hml := L5.out.ml.l
                          rw [HE4.out] at hml
                          obtain ⟨bl, ol, rfl, hcl, _⟩ := hml.cell (hcl0.trans rfl)
                          have RNG : Hid (wr.rangeAt bl (ol + k * 33) Cl) := fun j v hj => by
                            have hj33 : j < 33 := by
                              have := (List.getElem?_eq_some_iff.1 hj).1
                              rw [LN.out] at this
                              exact this
                            rw [hCl] at hj
                            obtain ⟨b', o', h1, h2, _⟩ := hml.cell ((flr_at E4 k (n7, t7, y7) j (fun e he => (L5.out.jn.lt e he).2.2) HE7.out hj33).trans hj)
                            injection h1 with h1; injection h1 with h3 h4
                            subst h3 h4
                            rw [show ol + k * 33 + j = ol + (k * 33 + j) by omega]
                            exact h2
                          have HI : Hid ((Tryd.prog.info? 26).map (·.size) = some Cl.length) := by show _ = _; rw [hCl]; have := irl n7 (hl.sha_len _ (bI_byt HY7.out)); simpa using this
                          clear hCl g7 hat hcl0 hcl hml ht7
                          go_wp2_with (first | (refine wpList_load_mid rfl 26 (.tmp 123) rfl bl (ol + k * 33) rfl Cl _ RNG.out Tryd.underlying26 rfl HI.out ?_))
                          refine GET.out.mono ?_
                          rintro e w7 ⟨q7, S7, T7, rfl, tx7, hq7, hn7, hl7, hs7, hm7⟩
                          have L7 := Lib.hid hl7
                          have LO7 : Hid (lo ≤ w7.heap.size) := Nat.le_trans LO5.out hm7.size
                          have TX7 := Lib.hid tx7
                          obtain ⟨st, hst⟩ : ∃ st, st = strOfNums (bI y7) := ⟨_, rfl⟩
                          have ST : Hid (∀ (W : World) (b : Nat), dk.TX W (.slice (some ⟨b, 0, none⟩) 512 512) (dk.tx y7) → (convert 37 9 (.slice (some ⟨b, 0, none⟩) 512 512)).run Tryd.prog W = .ok (.string st) W) := fun W b h => by rw [hst]; exact (tx_sees h HY7.out).str
                          obtain ⟨b8, o8, rfl, hc8, hf8⟩ := L7.out.ml.b.cell (flb_at HE7.out)
                          simp only at hc8
                          obtain ⟨cs8, hr8⟩ := Rw.row L7.out.ml.b b8 rfl
                          have R8 := Lib.hid hr8
                          have C8 : Hid (∀ W : World, Below w7.heap.size w7 W → W.cell? ⟨b8, o8 + k, none⟩ = some (.int .u8 (y7 : Int))) := fun W h => by
                            rw [h.cell (p := ⟨b8, o8 + k, none⟩) (blk_lt hr8)]
                            exact hc8
                          clear hst hq7 hn7 hl7 hs7 hm7 tx7 GET RNG L5 LO5 hc7 hc8 hf8 hr8
                          go_wp2_with fail
                          refine wp_region_held_drew (S := fun W => Below w7.heap.size w7 W) (by kernel_rfl) ((Below.refl _ _).drew) (fun hS => ?_)
                          have hb0 : Below w7.heap.size w7 w7.drew := (Below.refl _ _).drew
                          clear hb0 
                          generalize w7.drew = Wvs at hS  ⊢
                          refine' wpAnyH_take (i := 0) ?h1x0v ?hsx0v ?hfx0v ?hrx0v ?hQx0v (Or.inl ⟨?hwx0v, ?hyx0v⟩) hS ?restx0v
                          case h1x0v => (simp only [List.getElem?_toArray, List.getElem?_cons_zero]; rfl)
                          case hsx0v | hfx0v | hrx0v => kernel_rfl
                          case hQx0v => exact fun _ _ _ h => h
                          case hwx0v => rfl
                          case hyx0v =>
                            intro W hW
                            go_simp
                            try with_reducible rfl
                          simp only [Act.put, List.setIfInBounds_toArray, List.set_cons_succ, List.set_cons_zero]
                          refine' wpAnyH_take (i := 1) ?h1x1v ?hsx1v ?hfx1v ?hrx1v ?hQx1v (Or.inl ⟨?hwx1v, ?hyx1v⟩) hS ?restx1v
                          case h1x1v => (simp only [List.getElem?_toArray, List.getElem?_cons_succ, List.getElem?_cons_zero]; rfl)
                          case hsx1v | hfx1v | hrx1v => kernel_rfl
                          case hQx1v => exact fun _ _ _ h => h
                          case hwx1v => rfl
                          case hyx1v =>
                            intro W hW
                            go_simp
                            try with_reducible rfl
                          simp only [Act.put, List.setIfInBounds_toArray, List.set_cons_succ, List.set_cons_zero]
                          refine' wpAnyH_take (i := 2) ?h1x2v ?hsx2v ?hfx2v ?hrx2v ?hQx2v (Or.inl ⟨?hwx2v, ?hyx2v⟩) hS ?restx2v
                          case h1x2v => (simp only [List.getElem?_toArray, List.getElem?_cons_succ, List.getElem?_cons_zero]; rfl)
                          case hsx2v | hfx2v | hrx2v => kernel_rfl
                          case hQx2v => exact fun _ _ _ h => h
                          case hwx2v => rfl
                          case hyx2v =>
                            intro W hW
                            go_simp
                            try with_reducible rfl
                          simp only [Act.put, List.setIfInBounds_toArray, List.set_cons_succ, List.set_cons_zero]
                          refine' wpAnyH_take (i := 3) ?h1x3v ?hsx3v ?hfx3v ?hrx3v ?hQx3v (Or.inl ⟨?hwx3v, ?hyx3v⟩) hS ?restx3v
                          case h1x3v => (simp only [List.getElem?_toArray, List.getElem?_cons_succ, List.getElem?_cons_zero]; rfl)
                          case hsx3v | hfx3v | hrx3v => kernel_rfl
                          case hQx3v => exact fun _ _ _ h => h
                          case hwx3v => rfl
                          case hyx3v =>
                            intro W hW
                            go_simp
                            try with_reducible rfl
                          simp only [Act.put, List.setIfInBounds_toArray, List.set_cons_succ, List.set_cons_zero]
                          refine' wpAnyH_take (i := 5) ?h1x5v ?hsx5v ?hfx5v ?hrx5v ?hQx5v (Or.inl ⟨?hwx5v, ?hyx5v⟩) hS ?restx5v
                          case h1x5v => (simp only [List.getElem?_toArray, List.getElem?_cons_succ, List.getElem?_cons_zero]; rfl)
                          case hsx5v | hfx5v | hrx5v => kernel_rfl
                          case hQx5v => exact fun _ _ _ h => h
                          case hwx5v => rfl
                          case hyx5v =>
                            intro W hW
                            go_simp
                            try with_reducible rfl
                          simp only [Act.put, List.setIfInBounds_toArray, List.set_cons_succ, List.set_cons_zero]
                          refine' wpAnyH_take (i := 6) ?h1x6v ?hsx6v ?hfx6v ?hrx6v ?hQx6v (Or.inl ⟨?hwx6v, ?hyx6v⟩) hS ?restx6v
                          case h1x6v => (simp only [List.getElem?_toArray, List.getElem?_cons_succ, List.getElem?_cons_zero]; rfl)
                          case hsx6v | hfx6v | hrx6v => kernel_rfl
                          case hQx6v => exact fun _ _ _ h => h
                          case hwx6v => rfl
                          case hyx6v =>
                            intro W hW
                            go_simp
                            try with_reducible rfl
                          simp only [Act.put, List.setIfInBounds_toArray, List.set_cons_succ, List.set_cons_zero]
                          refine' wpAnyH_take (i := 4) ?h1x4v ?hsx4v ?hfx4v ?hrx4v ?hQx4v (Or.inl ⟨?hwx4v, ?hyx4v⟩) hS ?restx4v
                          case h1x4v => (simp only [List.getElem?_toArray, List.getElem?_cons_succ, List.getElem?_cons_zero]; rfl)
                          case hsx4v | hfx4v | hrx4v => kernel_rfl
                          case hQx4v => exact fun _ _ _ h => h
                          case hwx4v => rfl
                          case hyx4v =>
                            intro W hW
                            have tt := ST.out W q7 (dk.TX.below TX7.out hW)
                            go_simp
                            try with_reducible rfl
                          simp only [Act.put, List.setIfInBounds_toArray, List.set_cons_succ, List.set_cons_zero]
                          refine' wpAnyH_take (i := 7) ?h1x7v ?hsx7v ?hfx7v ?hrx7v ?hQx7v (Or.inl ⟨?hwx7v, ?hyx7v⟩) hS ?restx7v
                          case h1x7v => (simp only [List.getElem?_toArray, List.getElem?_cons_succ, List.getElem?_cons_zero]; rfl)
                          case hsx7v | hfx7v | hrx7v => kernel_rfl
                          case hQx7v => exact fun _ _ _ h => h
                          case hwx7v => rfl
                          case hyx7v =>
                            intro W hW
                            go_simp
                            try with_reducible rfl
                          simp only [Act.put, List.setIfInBounds_toArray, List.set_cons_succ, List.set_cons_zero]
                          refine' wpAnyH_take (i := 8) ?h1x8v ?hsx8v ?hfx8v ?hrx8v ?hQx8v (Or.inl ⟨?hwx8v, ?hyx8v⟩) hS ?restx8v
                          case h1x8v => (simp only [List.getElem?_toArray, List.getElem?_cons_succ, List.getElem?_cons_zero]; rfl)
                          case hsx8v | hfx8v | hrx8v => kernel_rfl
                          case hQx8v => exact fun _ _ _ h => h
                          case hwx8v => rfl
                          case hyx8v =>
                            intro W hW
                            have tt := C8.out W hW
                            go_simp
                            try with_reducible rfl
                          simp only [Act.put, List.setIfInBounds_toArray, List.set_cons_succ, List.set_cons_zero]
                          refine wpAnyH_ready (rs := [9]) (by kernel_rfl) (by simp) ?_
                          refine' (AllReadyH.cons ?hoc9v (fun K hK => ?stc9v) AllReadyH.nil)
                          case hoc9v => (simp only [List.getElem?_toArray, List.getElem?_cons_succ, List.getElem?_cons_zero]; rfl)
                          go_simp
                          refine (fullX y7 Wvs).mono ?_
                          rintro e Wzx9 ⟨b9, rfl, hv9, hl9, hb9⟩
                          have t9 := ST.out Wzx9 b9 hv9
                          have qS := hS.trans (hb9.mono hS.size)
                          go_wp2_with fail
                          refine hK.out _ _ qS (fun hHeld => ?_)
                          clear hK K qS
                          try simp only [Act.put, List.setIfInBounds_toArray, List.set_cons_succ, List.set_cons_zero]
                          clear hS hb9 hv9
                          have hS := hHeld
                          clear hHeld
                          refine wpAnyH_ready (rs := [10]) (by kernel_rfl) (by simp) ?_
                          refine' (AllReadyH.cons ?hoc10vx9 (fun K hK => ?stc10vx9) AllReadyH.nil)
                          case hoc10vx9 => (simp only [List.getElem?_toArray, List.getElem?_cons_succ, List.getElem?_cons_zero]; rfl)
                          go_simp
                          refine hK.out _ _ hS (fun hHeld => ?_)
                          clear hK K hHeld t9
                          try simp only [Act.put, List.setIfInBounds_toArray, List.set_cons_succ, List.set_cons_zero]
                          refine' wpAnyH_take (i := 11) ?h1x11vx9x10 ?hsx11vx9x10 ?hfx11vx9x10 ?hrx11vx9x10 ?hQx11vx9x10 (Or.inl ⟨?hwx11vx9x10, ?hyx11vx9x10⟩) hS ?restx11vx9x10
                          case h1x11vx9x10 => (simp only [List.getElem?_toArray, List.getElem?_cons_succ, List.getElem?_cons_zero]; rfl)
                          case hsx11vx9x10 | hfx11vx9x10 | hrx11vx9x10 => kernel_rfl
                          case hQx11vx9x10 => exact fun _ _ _ h => h
                          case hwx11vx9x10 => rfl
                          case hyx11vx9x10 =>
                            intro W hW
                            go_simp
                            try with_reducible rfl
                          simp only [Act.put, List.setIfInBounds_toArray, List.set_cons_succ, List.set_cons_zero]
                          refine' wpAnyH_take (i := 12) ?h1x12vx9x10 ?hsx12vx9x10 ?hfx12vx9x10 ?hrx12vx9x10 ?hQx12vx9x10 (Or.inl ⟨?hwx12vx9x10, ?hyx12vx9x10⟩) hS ?restx12vx9x10
                          case h1x12vx9x10 => (simp only [List.getElem?_toArray, List.getElem?_cons_succ, List.getElem?_cons_zero]; rfl)
                          case hsx12vx9x10 | hfx12vx9x10 | hrx12vx9x10 => kernel_rfl
                          case hQx12vx9x10 => exact fun _ _ _ h => h
                          case hwx12vx9x10 => rfl
                          case hyx12vx9x10 =>
                            intro W hW
                            go_simp
                            try with_reducible rfl
                          simp only [Act.put, List.setIfInBounds_toArray, List.set_cons_succ, List.set_cons_zero]
                          refine wpAnyH_done (by kernel_rfl) ?_ _
                          have qL := L7.out.below hS
                          have qlo : lo ≤ Wzx9.heap.size := Nat.le_trans LO7.out hS.size
                          have L8 := Lib.hid qL
                          have LO8 := Lib.hid qlo
                          clear hS qL qlo L7 LO7 C8 ST TX7 R8
                          go_wp2_with fail
                          go_roundg (E3.length - (k + 1))
                          case measure => have := HR5.out; omega
                          case rel => exact ⟨k + 1, S7, T7, by omega, by go_num, by rw [show 100 * i + 1 + (k + 1) = 100 * i + 1 + k + 1 by omega]; exact L8.out, LO8.out⟩
                      · have hke : k = E3.length := by have := HR5.out; omega
                        have hk4 : ¬ k < E4.length := by have := HE4.out; omega
                        have HKE := Lib.hid hke
                        clear hke
                        go_wp2_with fail
                        go_roundg (min l 60 - (i + 1))
                        case measure => have := HR.out; omega
                        case rel => exact ⟨i + 1, E4, D3, s4, S5, T5, by have := HR.out; omega, by go_num, L5.out.more (Nat.le_refl _) (by have := HN4.out; have := HE4.out; have := HKE.out; omega), LO5.out⟩
      · have hi : i = 60 := by have := HR.out; omega
        subst hi
        have AL := Lib.hid (alive wr L.out.pw.gg)
        clear h50
        go_wp2_with fail
        refine AL.out.mono ?_
        rintro e w9 ⟨rfl, hb9⟩
        go_wp2_with fail
        go_ret
        exact ⟨rfl, L.out.b.trans (hb9.mono L.out.b.size)⟩
    · have hi : i = l := by have := HR.out; omega
      subst hi
      have AL := Lib.hid (alive wr L.out.pw.gg)
      clear hlt
      go_wp2_with fail
      refine AL.out.mono ?_
      rintro e w9 ⟨rfl, hb9⟩
      go_wp2_with fail
      go_ret
      exact ⟨rfl, L.out.b.trans (hb9.mono L.out.b.size)⟩
end Go.Proofs.YtjdamlmoegippaaDoor.pl
