/-
  The walk of PoolTold. Condition: the two tables of package sha stand in memory; the texts can be read.
-/
import Derived.Test.YtjdamlmoegippaaDoorPtB
import Derived.Deep.DeepCutAuto
import Derived.Deep.CutBlock
namespace Go.Proofs.YtjdamlmoegippaaDoor.pl
open Go.RowKit
/-- A list of octets that were put stands for the first of some bytes. -/
def EQ (X : List Int) (E : List En) : Prop := E.length ≤ X.length ∧ ∀ j e, E[j]? = some e → hl.nth X j = (e.2.2 : Int)
theorem EQ.push {X : List Int} {E : List En} (h : EQ X E) (n t y : Nat) (hll : E.length < X.length) (hy : hl.nth X E.length = (y : Int)) : EQ X (E ++ [(n, t, y)]) := by
  refine ⟨by simp; omega, fun j e hj => ?_⟩
  by_cases hlt : j < E.length
  · rw [List.getElem?_append_left hlt] at hj
    exact h.2 j e hj
  · rw [List.getElem?_append_right (by omega)] at hj
    have h1 := (List.getElem?_eq_some_iff.1 hj).1
    simp at h1
    obtain rfl : j = E.length := by omega
    simp at hj
    rw [← hj]
    exact hy
theorem sees_at {w : World} {b o c : Nat} {xs : List Int} (h : hl.Sees w (.slice (some ⟨b, o, none⟩) xs.length c) xs) (i : Nat) (hi : i < xs.length) : w.cell? ⟨b, o + i, none⟩ = some (.int .u8 (hl.nth xs i)) := by
  obtain ⟨b', o', n, e, hn, _, hc⟩ := sees_cell h i hi
  injection e with e; injection e with e1 e2
  subst e1 e2
  rw [hc, hn]
set_option maxRecDepth 100000 in
set_option maxHeartbeats 8000000 in
theorem told (x0 x1 : Option Addr) (c0 c1 : Nat) (v2 : Value) (X Y : List Int) (Z : List (List Int)) (w : World) (hG : hl.Glob w) (h0 : hl.Sees w (.slice x0 X.length c0) X) (h1 : hl.Sees w (.slice x1 Y.length c1) Y) (h2 : hl.SeesM w v2 Z) : Calls Tryd.prog 5 #[.slice x0 X.length c0, .slice x1 Y.length c1, v2] w (AliveP w) := by
  obtain ⟨x2, c2, rfl, hz2⟩ := seesM_form h2
  have H0 := Lib.hid h0
  have H1 := Lib.hid h1
  have H2 := Lib.hid hz2
  have BG := Lib.hid (begin14 w hG)
  obtain ⟨Zr, hZ⟩ : ∃ Z, Z = zr := ⟨_, rfl⟩
  have hz := z26
  have i0 := i26
  have o0 := o26
  have sz : zr.size = 33 := by kernel_rfl
  rw [← hZ] at hz i0 o0 sz
  have HZ := Lib.hid hz
  have IZ := Lib.hid i0
  have OZ := Lib.hid o0
  have SZ := Lib.hid sz
  clear hG h0 h1 h2 hz2 i0 o0 sz hZ hz
  go_enter Tryd.func5, Tryd.ntmps5
  go_wp2_with fail
  refine BG.out.mono ?_
  rintro e w1 ⟨A, S, rfl, hp1, hA, hb1⟩
  have AC := Lib.hid hA
  obtain ⟨lo, hlo⟩ : ∃ lo, lo = w1.heap.size := ⟨_, rfl⟩
  have GB : Hid (A.B ≤ lo) := by
    show _ ≤ _
    rw [hlo]
    exact hp1.bb.2
  have P1 : Hid (TS w w1 { A with q := fun _ => False } lo (.slice none 0 0) [] 0 0 D0 (sK 0) S [] ∧ lo ≤ w1.heap.size) := by
    refine ⟨⟨hp1.bytes (fun _ => False) _ (dk.Mods.refl _ _) (fun _ h => h.elim) (fun k hk => hk.elim), dk.Rw.nil _ _ _, fun k hk => by simp [Value.ownBlock] at hk, fun _ h => by simp at h, fun _ h => by simp at h, ⟨rfl, rfl, Int.le_refl 0, Int.le_refl 0, Nat.le_refl 0⟩, Nat.le_refl _, hb1⟩, Nat.le_of_eq hlo⟩
  obtain ⟨A', hA'⟩ : ∃ A' : PA, A' = { A with q := fun _ => False } := ⟨_, rfl⟩
  rw [← hA'] at P1
  have AC' : Hid (A'.ct = 20 ∧ A'.fr = 5 ∧ A'.N = 25 ∧ A'.B = w.heap.size) := by show _ ∧ _; rw [hA']; exact hA
  have ap : A'.p = A.p := by rw [hA']
  have ad : A'.gd = A.gd := by rw [hA']
  have ab : A'.B = A.B := by rw [hA']
  rw [← ap, ← ad]
  rw [← ab] at GB
  clear hA hp1 hb1 BG hlo hA' AC ap ad ab
  by_cases hbig : 20 < Z.length
  · have AL := Lib.hid (alive w1 P1.out.1.pw.gg)
    go_wp2_with fail
    refine AL.out.mono ?_
    rintro e w9 ⟨rfl, hb9⟩
    go_wp2_with fail
    go_ret
    exact ⟨rfl, P1.out.1.b.trans (hb9.mono P1.out.1.b.size)⟩
  · have hz20 : Z.length ≤ 20 := by omega
    go_upto_block 0 with fail
    go_cut [10] (fun vl wx => ∃ (i : Nat) (E : List En) (D : DS) (S : Nat → Prop) (T : List (List Int)), TS w wx A' lo vl E i i D (sK i) S T ∧ E.length = i ∧ i ≤ 12 ∧ EQ X E ∧ lo ≤ wx.heap.size)
    case first =>
      as_aux_lemma =>
        go_wp2_with fail
        go_loopg [10, 11, 12, 13] (min X.length 12) (fun r vl vi _ _ wr => ∃ (i : Nat) (E : List En) (D : DS) (S : Nat → Prop) (T : List (List Int)), r + i = min X.length 12 ∧ vi = .int .i64 i ∧ TS w wr A' lo vl E i i D (sK i) S T ∧ E.length = i ∧ EQ X E ∧ lo ≤ wr.heap.size)
        case atStart => exact ⟨0, [], D0, S, [], by omega, rfl, P1.out.1, rfl, ⟨Nat.zero_le _, fun j e h => by simp at h⟩, P1.out.2⟩
        case round =>
          clear P1
          obtain ⟨i, E, D, s, T, hr, rfl, hts, he, heq, hlo⟩ := hrel
          have HR := Lib.hid hr
          have L := Lib.hid hts
          have LO := Lib.hid hlo
          have HE := Lib.hid he
          have EX := Lib.hid heq
          clear hr hts hlo he heq
          by_cases hlt : i < X.length
          · by_cases h12 : i < 12
            · obtain ⟨vl, hvl⟩ : ∃ vl, vl = u10 := ⟨_, rfl⟩
              subst hvl
              obtain ⟨b0, o0, y, rfl, hy, hy8, hc0⟩ := sees_cell (H0.out.below L.out.b) i hlt
              have HY := Lib.hid hy
              clear hy
              go_wp2_with fail
              refine (fullX y wr hy8).mono ?_
              rintro e w2 ⟨b4, rfl, hv4, hl4, hb4⟩
              have NS : Hid (¬ s b4) := fun e => by have := L.out.pw.lg.own _ e; omega
              have P2 := Lib.hid ((L.out.below hb4).put AC'.out 3 b4 y hv4 NS.out (sK_ok i h12) (by omega) (by omega))
              have Z2 : Hid (lo ≤ w2.heap.size) := Nat.le_trans LO.out hb4.size
              clear hv4 hl4 hb4 L NS
              go_wp2_with fail
              refine P2.out.mono ?_
              rintro e w3 ⟨n, D3, S3, T3, hn, rfl, hts3, hm3, hS3, hmd3⟩
              have HN := Lib.hid hn
              have MT := Lib.hid hm3
              have L3 := Lib.hid hts3
              have Z3 : Hid (lo ≤ w3.heap.size) := Nat.le_trans Z2.out hmd3.size
              clear hn hts3 hm3 hS3 hmd3 P2
              have LC : Hid ((rl n (hl.sha (bI y))).length = 33) := rl_len _ (hl.sha_len _ (bI_byt trivial))
              have OC1 : Hid (∀ u ∈ rl n (hl.sha (bI y)), u.oneCell' = true) := fun u hu => by
                have := orl n (hl.sha (bI y))
                rw [Array.all_eq_true'] at this
                exact this u (by simpa using hu)
              have BS0 : Hid (∀ W : World, (Instr.buildSlice 49 1 #[(0, .agg (rl n (hl.sha (bI y))).toArray)]).run Tryd.prog W = .ok (.slice (some ⟨W.heap.size, 0, none⟩) 1 1) (W.alloc (.cells (rl n (hl.sha (bI y))).toArray 26))) := bs49 n _ (hl.sha_len _ (bI_byt trivial))
              have OC : Hid ((rl n (hl.sha (bI y))).toArray.all (·.oneCell') = true) := orl _ _
              have IC : Hid ((Tryd.prog.info? 26).map (·.size) = some (rl n (hl.sha (bI y))).toArray.size) := irl _ (hl.sha_len _ (bI_byt trivial))
              obtain ⟨Cl, hCl⟩ : ∃ Cl, Cl = rl n (hl.sha (bI y)) := ⟨_, rfl⟩
              rw [← hCl] at LC OC1 BS0 OC IC ⊢
              have HC := Lib.hid hCl
              clear hCl
              have IZC : Hid (Zr.size = Cl.toArray.size) := Option.some.inj (IZ.out.symm.trans IC.out)
              obtain ⟨w4, hw4⟩ : ∃ w4, w4 = w3.alloc (.cells Cl.toArray 26) := ⟨_, rfl⟩
              have RN4 : Hid ((w3.alloc (.cells Zr 26)).setRow w3.heap.size Cl.toArray = w4) := by show _ = _; rw [hw4]; exact alloc_setRowD w3 Zr Cl.toArray 26 _ rfl
              have GN4 : Hid ((w3.alloc (.cells Zr 26)).heap[w3.heap.size]? = some (.cells Zr 26 (0, 0))) := heap_alloc_new w3 _
              have b34 : Below w3.heap.size w3 w4 := by rw [hw4]; exact (Below.refl _ _).alloc (Nat.le_refl _) _
              have G4 : Hid (w4.heap[w3.heap.size]? = some (.cells Cl.toArray 26 (0, 0))) := by show _ = _; rw [hw4]; exact heap_alloc_new w3 _
              obtain ⟨w5, hw5⟩ : ∃ w5, w5 = w4.alloc (.cells Cl.toArray 26) := ⟨_, rfl⟩
              have BS : Hid ((Instr.buildSlice 49 1 #[(0, .agg Cl.toArray)]).run Tryd.prog w4 = .ok (.slice (some ⟨w4.heap.size, 0, none⟩) 1 1) w5) := by show _ = _; rw [hw5]; exact BS0.out w4
              have b45 : Below w4.heap.size w4 w5 := by rw [hw5]; exact (Below.refl _ _).alloc (Nat.le_refl _) _
              have g5 : w5.heap[w4.heap.size]? = some (.cells Cl.toArray 26 (0, 0)) := by rw [hw5]; exact heap_alloc_new w4 _
              have L5 := Lib.hid ((L3.out.below b34).below b45)
              have Z5 : Hid (lo ≤ w5.heap.size) := Nat.le_trans Z3.out (Nat.le_trans b34.size b45.size)
              obtain ⟨v', w6, r6, s6, m6, o6⟩ := push26 L5.out.l w4.heap.size Cl LC.out OC1.out g5 (by have := HE.out; omega)
              have R6 := Lib.hid r6
              have L6 := Lib.hid (L5.out.addL AC'.out.2.2.2 ⟨Z5.out, GB.out⟩ n 3 y Cl HC.out HN.out hy8 MT.out s6 m6 o6)
              have Z6 : Hid (lo ≤ w6.heap.size) := Nat.le_trans Z5.out m6.size
              have EX6 : Hid (EQ X (E ++ [(n, 3, y)])) := EX.out.push n 3 y (by have := HE.out; omega) (by rw [HE.out]; exact HY.out)
              clear hw4 hw5 b34 b45 g5 r6 s6 m6 o6 hc0
              go_upto_region 9 with (first | (refine wpList_alloc_zD rfl 26 rfl (HZ.out _) ?_; refine wpList_store_row rfl 26 (.tmp 12) (.tmp 53) rfl w3.heap.size Cl.toArray rfl rfl 26 Zr GN4.out IC.out IZC.out OC.out ?_; rw [RN4.out]))
              go_wp2_with (first | (refine wpList_load_row rfl 26 (.tmp 12) rfl w3.heap.size rfl 26 Cl.toArray (0, 0) _ G4.out Tryd.underlying26 rfl IC.out ?_; refine wpList_bs1 rfl 49 1 (.tmp 58) rfl rfl BS.out ?_; refine wpList_appT rfl 49 (.tmp 57) (.tmp 59) rfl rfl rfl rfl R6.out ?_))
              go_roundg (min X.length 12 - (i + 1))
              case measure => have := HR.out; omega
              case rel => exact ⟨i + 1, _, D3, S3, T3, by have := HR.out; omega, by go_num, L6.out, by rw [List.length_append, HE.out]; rfl, EX6.out, Z6.out⟩
            · go_wp2_with fail
              go_meet
              exact ⟨i, E, D, s, T, L.out, HE.out, by have := HR.out; omega, EX.out, LO.out⟩
          · go_wp2_with fail
            go_meet
            exact ⟨i, E, D, s, T, L.out, HE.out, by have := HR.out; omega, EX.out, LO.out⟩
    case rest =>
      as_aux_lemma =>
        clear P1
        obtain ⟨i, E, D, s, T, hts, he, hi12, heq, hlo⟩ := hcut
        have L := Lib.hid hts
        have LO := Lib.hid hlo
        have HE := Lib.hid he
        have EX := Lib.hid heq
        clear hts hlo he heq
        go_upto_block 2 with fail
        go_cut [] (fun wx => ∃ (D : DS) (k : Nat), TS w wx A' lo u10 E k i D (sK i) s T ∧ k ≤ 40 ∧ lo ≤ wx.heap.size)
        case first =>
          as_aux_lemma =>
            go_wp2_with fail
            go_loopg [14, 15] Z.length (fun r vj _ wr => ∃ (j : Nat) (D : DS), r + j = Z.length ∧ vj = .int .i64 j ∧ TS w wr A' lo u10 E (i + j) i D (sK i) s T ∧ lo ≤ wr.heap.size)
            case atStart => exact ⟨0, D, by omega, rfl, L.out, LO.out⟩
            case round =>
              clear L LO
              obtain ⟨j, D5, hr5, rfl, hts5, hlo5⟩ := hrel
              have HR5 := Lib.hid hr5
              have L5 := Lib.hid hts5
              have LO5 := Lib.hid hlo5
              clear hr5 hts5 hlo5
              obtain ⟨xl, cl, hxl, _, _⟩ := L5.out.l.form
              subst hxl
              by_cases hz : j < Z.length
              · by_cases hy : j < Y.length
                · by_cases he0 : 0 < E.length
                  · obtain ⟨wo, hwo⟩ : ∃ wo : World, wo = wr := ⟨_, rfl⟩
                    subst hwo
                    obtain ⟨b2, o2, xz, cz, rfl, hb2, hc2, hs2⟩ := H2.out j hz
                    have hc5 : wo.cell? ⟨b2, o2 + j, none⟩ = some (.slice xz (Z.getD j []).length cz) := by
                      rw [L5.out.b.cell (p := ⟨b2, o2 + j, none⟩) hb2]
                      exact hc2
                    have hs5 := hs2.below L5.out.b
                    generalize Z.getD j [] = t at hc5 hs5
                    clear hc2 hs2
                    by_cases hbig : 512 < t.length
                    · have AL := Lib.hid (alive wo L5.out.pw.gg)
                      clear hs5
                      go_wp2_with fail
                      refine AL.out.mono ?_
                      rintro e w9 ⟨rfl, hb9⟩
                      go_wp2_with fail
                      go_ret
                      exact ⟨rfl, L5.out.b.trans (hb9.mono L5.out.b.size)⟩
                    · have hsm : t.length ≤ 512 := by omega
                      obtain ⟨wa, hwa⟩ : ∃ wa, wa = wo.alloc (.cells #[] 5) := ⟨_, rfl⟩
                      have BE : Hid ((Instr.buildSlice 37 0 #[]).run Tryd.prog wo = .ok (.slice (some ⟨wo.heap.size, 0, none⟩) 0 0) wa) := by show _ = _; rw [hwa]; exact bs37e wo
                      have ba : Below wo.heap.size wo wa := by rw [hwa]; exact (Below.refl _ _).alloc (Nat.le_refl _) _
                      have own0 := own_empty wo
                      rw [← hwa] at own0
                      obtain ⟨qx, qc, w6, hr6, ho6, _, hb6⟩ := hl.appW own0 (hs5.below ba) (by show 0 + t.length ≤ _; omega) (by rw [hwa]; simp)
                      simp only [List.length_nil, Nat.zero_add, List.nil_append] at hr6 ho6
                      have HR6 := Lib.hid hr6
                      have HO6 := Lib.hid ho6
                      have HB6 := Lib.hid (ba.trans hb6)
                      have hca : wa.cell? ⟨b2, o2 + j, none⟩ = some (.slice xz t.length cz) := by
                        rw [ba.cell (p := ⟨b2, o2 + j, none⟩) (by have := L5.out.b.size; show b2 < _; omega)]
                        exact hc5
                      obtain ⟨base, hbase⟩ : ∃ base, base = wo.heap.size := ⟨_, rfl⟩
                      rw [← hbase] at HO6 HB6
                      have HBASE := Lib.hid hbase
                      clear hwa ba own0 hr6 ho6 hb6 hbase hs5
                      go_upto_block 4 with (first | (refine wpList_bs0 rfl 37 0 rfl BE.out ?_) | (at_builtin; refine hl.wpList_app rfl _ _ rfl rfl rfl rfl HR6.out ?_))
                      clear hca hc5
                      go_wp2_with fail
                      go_loopg [15] (512 - t.length) (fun r vb wx => ∃ (xs : List Int), r + xs.length = 512 ∧ hl.Own wx base vb xs ∧ Below base wo wx)
                      case atStart => exact ⟨t, by omega, HO6.out, HB6.out⟩
                      case round =>
                        clear HO6 HB6 HR6 BE
                        obtain ⟨xs, hr7, ho7, hb7⟩ := hrel
                        obtain ⟨xv, cv, rfl⟩ := own_form ho7
                        have O7 := Lib.hid ho7
                        have B7 := Lib.hid hb7
                        have HR7 := Lib.hid hr7
                        clear ho7 hb7 hr7
                        have bw7 : Below w.heap.size w wr := L5.out.b.trans (B7.out.mono (by rw [HBASE.out]; exact L5.out.b.size))
                        by_cases hlt : xs.length < 512
                        · obtain ⟨b0, o0, n0, rfl, hq0, hn8, hc0⟩ := sees_cell (H0.out.below bw7) 0 (by have := EX.out.1; omega)
                          rw [Nat.add_zero] at hc0
                          have hx0 : 0 < X.length := by have := EX.out.1; omega
                          obtain ⟨wy, hwy⟩ : ∃ wy, wy = wr.alloc (.cells #[.int .u8 (n0 : Int)] 5) := ⟨_, rfl⟩
                          have BS : Hid ((Instr.buildSlice 37 1 #[(0, .int .u8 (n0 : Int))]).run Tryd.prog wr = .ok (.slice (some ⟨wr.heap.size, 0, none⟩) 1 1) wy) := by show _ = _; rw [hwy]; exact bs37 _ wr
                          have by7 : Below wr.heap.size wr wy := by rw [hwy]; exact (Below.refl _ _).alloc (Nat.le_refl _) _
                          have gy : wy.heap[wr.heap.size]? = some (.cells #[.int .u8 (n0 : Int)] 5 (0, 0)) := by rw [hwy]; exact heap_alloc_new wr _
                          obtain ⟨qx, qc, w8, hr8, ho8, _, hb8⟩ := hl.appW (O7.out.below by7) (sees_one wy wr.heap.size n0 (by omega) (by omega) gy) (by simp; omega) (by have := B7.out.size; have := by7.size; have := HBASE.out; omega)
                          simp only [List.length_singleton] at hr8 ho8
                          have HR8 := Lib.hid hr8
                          have HO8 := Lib.hid ho8
                          have HB8 : Hid (Below base wo w8) := (B7.out.trans (by7.mono (by have := B7.out.size; have := HBASE.out; omega))).trans hb8
                          clear hwy by7 gy hr8 ho8 hb8 bw7 hq0
                          go_wp2_with (first | (refine wpList_bs1 (u := .int .u8 (n0 : Int)) (w := wr) (w' := wy) rfl 37 1 (.tmp 97) rfl rfl BS.out ?_; refine wpList_appT (w := wy) (w' := w8) (v := .slice xv xs.length cv) (u := .slice (some ⟨wr.heap.size, 0, none⟩) 1 1) rfl 37 (.tmp 94) (.tmp 98) rfl rfl rfl rfl HR8.out ?_))
                          go_roundg (512 - (xs.length + 1))
                          case measure => have := HR7.out; omega
                          case rel => exact ⟨xs ++ [(n0 : Int)], by rw [List.length_append, List.length_singleton]; omega, HO8.out, HB8.out⟩
                        · have hx5 : xs.length = 512 := by have := HR7.out; omega
                          obtain ⟨y, hsx⟩ := own_sx O7.out hx5
                          have HX5 := Lib.hid hx5
                          have SX5 := Lib.hid hsx
                          obtain ⟨b1, o1, n1, rfl, hq1, hn8, hc1⟩ := sees_cell (H1.out.below bw7) j hy
                          have L7 := Lib.hid (L5.out.below (by have q := B7.out; rw [HBASE.out] at q; exact q))
                          have Z7 : Hid (lo ≤ wr.heap.size) := by show _ ≤ _; have := LO5.out; have := B7.out.size; have := HBASE.out; omega
                          have TM := Lib.hid (L7.out.tamper AC'.out (5 + n1 % 20) y _ (by omega) SX5.out (by omega))
                          have n1h : (n1 : Int) ≤ 255 := by omega
                          have n1l : (0 : Int) ≤ (n1 : Int) := by omega
                          clear hx5 hsx bw7 hq1
                          go_wp2_with fail
                          have hcst : (5 + (n1 : Int) % 20) = ((5 + n1 % 20 : Nat) : Int) := by omega
                          rw [hcst]
                          clear hcst
                          refine TM.out.mono ?_
                          rintro e w8 ⟨D8, rfl, hts8, hsz8⟩
                          have L8 := Lib.hid hts8
                          have Z8 : Hid (lo ≤ w8.heap.size) := Nat.le_trans Z7.out hsz8
                          clear hts8 hsz8 TM L7 Z7 SX5 HX5 O7 B7 hc1
                          go_wp2_with fail
                          go_roundg (Z.length - (j + 1))
                          case measure => have := HR5.out; omega
                          case rel => exact ⟨j + 1, D8, by have := HR5.out; omega, by go_num, by rw [show i + (j + 1) = i + j + 1 by omega]; exact L8.out, Z8.out⟩
                  · go_wp2_with fail
                    go_meet
                    exact ⟨D5, i + j, L5.out, by have := HR5.out; omega, LO5.out⟩
                · go_wp2_with fail
                  go_meet
                  exact ⟨D5, i + j, L5.out, by have := HR5.out; omega, LO5.out⟩
              · go_wp2_with fail
                go_meet
                exact ⟨D5, i + j, L5.out, by have := HR5.out; omega, LO5.out⟩
        case rest =>
          as_aux_lemma =>
            clear L LO
            obtain ⟨D5, m5, hts5, hm5, hlo5⟩ := hcut
            have L5 := Lib.hid hts5
            have LO5 := Lib.hid hlo5
            clear hts5 hlo5
            obtain ⟨xl, cl, hxl, _, _⟩ := L5.out.l.form
            subst hxl
            go_wp2_with fail
            go_loopg [16, 17, 18] E.length (fun r vk _ _ wr => ∃ (k : Nat) (S : Nat → Prop) (T : List (List Int)), r + k = E.length ∧ vk = .int .i64 k ∧ TS w wr A' lo (.slice xl E.length cl) E m5 (i + k) D5 (sK i) S T ∧ lo ≤ wr.heap.size)
            case atStart => exact ⟨0, s, T, by omega, rfl, L5.out, LO5.out⟩
            case round =>
              clear L5 LO5
              obtain ⟨k, S6, T6, hr6, rfl, hts6, hlo6⟩ := hrel
              have HR6 := Lib.hid hr6
              have L6 := Lib.hid hts6
              have LO6 := Lib.hid hlo6
              clear hr6 hts6 hlo6
              by_cases hk : k < E.length
              · obtain ⟨⟨n7, t7, y7⟩, hE7⟩ : ∃ e, E[k]? = some e := ⟨_, List.getElem?_eq_getElem hk⟩
                have HE7 := Lib.hid hE7
                have HY7 : Hid (y7 < 256) := (L6.out.lt _ (List.mem_of_getElem? hE7)).2
                have HX7 : Hid (hl.nth X k = (y7 : Int)) := EX.out.2 k _ hE7
                have HT7 : Hid (bI y7 ∈ T6) := L6.out.tt _ (List.mem_of_getElem? hE7)
                obtain ⟨y', g7⟩ := L6.out.get AC'.out k n7 t7 y7 hE7 (by have := HE.out; omega)
                obtain ⟨Cl, hCl⟩ : ∃ Cl, Cl = rl n7 (hl.sha (bI y7)) := ⟨_, rfl⟩
                have LN : Hid (Cl.length = 33) := by show _ = _; rw [hCl]; exact rl_len _ (hl.sha_len _ (bI_byt trivial))
                rw [← hCl] at g7
                have hml := L6.out.l
                have hcl0 := flr_at E k (n7, t7, y7) 0 (fun e he => (L6.out.lt e he).2) HE7.out (by omega)
                obtain ⟨bl, ol, rfl, hcl, _⟩ := hml.cell (hcl0.trans rfl)
                have RNG : Hid (wr.rangeAt bl (ol + k * 33) Cl) := fun j v hj => by
                  have hj33 : j < 33 := by
                    have := (List.getElem?_eq_some_iff.1 hj).1
                    rw [LN.out] at this
                    exact this
                  rw [hCl] at hj
                  obtain ⟨b', o', h1, h2, _⟩ := hml.cell ((flr_at E k (n7, t7, y7) j (fun e he => (L6.out.lt e he).2) HE7.out hj33).trans hj)
                  injection h1 with h1; injection h1 with h3 h4
                  subst h3 h4
                  rw [show ol + k * 33 + j = ol + (k * 33 + j) by omega]
                  exact h2
                have HI : Hid ((Tryd.prog.info? 26).map (·.size) = some Cl.length) := by show _ = _; rw [hCl]; have := irl n7 (hl.sha_len _ (bI_byt (y := y7) trivial)); simpa using this
                obtain ⟨b0, o0, n0, rfl, hq0, hn8, hc0⟩ := sees_cell (H0.out.below L6.out.b) k (by have := EX.out.1; omega)
                obtain rfl : n0 = y7 := by have := HX7.out; omega
                have HB0 : Hid (b0 < wr.heap.size) := World.block_lt_of_cell? wr _ hc0
                have C0 := Lib.hid hc0
                have hkx : k < X.length := by have := EX.out.1; omega
                have hkb : k ≤ 12 := by have := HE.out; omega
                clear hCl hcl0 hcl hml hE7 hq0 hc0
                by_cases hs : hl.sha (bI y') = hl.sha (bI n0)
                · simp only [if_pos hs] at g7
                  have GET := Lib.hid g7
                  have HS := Lib.hid hs
                  clear g7 hs
                  go_wp2_with (first | (refine wpList_load_mid rfl 26 (.tmp 121) rfl bl (ol + k * 33) rfl Cl _ RNG.out Tryd.underlying26 rfl HI.out ?_))
                  refine GET.out.mono ?_
                  rintro e w7 ⟨q7, S7, T7, rfl, tx7, hts7, hin7, hsz7⟩
                  have L7 := Lib.hid hts7
                  have LO7 : Hid (lo ≤ w7.heap.size) := Nat.le_trans LO6.out hsz7
                  have TX7 := Lib.hid tx7
                  have C7 : Hid (∀ W : World, Below w7.heap.size w7 W → W.cell? ⟨b0, o0 + k, none⟩ = some (.int .u8 (n0 : Int))) := fun W h => by
                    rw [sees_at (H0.out.below (L7.out.b.trans (h.mono L7.out.b.size))) k hkx, HX7.out]
                  have IN7 : Hid (bI y' ∈ T7 ∧ bI n0 ∈ T7) := ⟨hin7, L7.out.tt _ (List.mem_of_getElem? HE7.out)⟩
                  clear hts7 hin7 hsz7 tx7 GET RNG L6 LO6 HB0 C0 HI LN HT7
                  by_cases hb : bI y' = bI n0
                  · obtain ⟨st, hst⟩ : ∃ st, st = strOfNums (bI n0) := ⟨_, rfl⟩
                    have ST1 : Hid (∀ (W : World) (b : Nat), dk.TX W (.slice (some ⟨b, 0, none⟩) 512 512) (dk.tx y') → (convert 37 9 (.slice (some ⟨b, 0, none⟩) 512 512)).run Tryd.prog W = .ok (.string st) W) := fun W b h => by rw [hst, ← hb]; exact (tx_sees (p := True) h trivial).str
                    have ST2 : Hid (∀ (W : World) (b : Nat), dk.TX W (.slice (some ⟨b, 0, none⟩) 512 512) (dk.tx n0) → (convert 37 9 (.slice (some ⟨b, 0, none⟩) 512 512)).run Tryd.prog W = .ok (.string st) W) := fun W b h => by rw [hst]; exact (tx_sees (p := True) h trivial).str
                    clear hst hb
                    go_wp2_with fail
                    refine wp_region_held_drew (S := fun W => Below w7.heap.size w7 W) (by kernel_rfl) ((Below.refl _ _).drew) (fun hS => ?_)
                    have hb0 : Below w7.heap.size w7 w7.drew := (Below.refl _ _).drew
                    clear hb0 
                    generalize w7.drew = Wqas at hS  ⊢
                    refine' wpAnyH_take (i := 0) ?h1x0qa ?hsx0qa ?hfx0qa ?hrx0qa ?hQx0qa (Or.inl ⟨?hwx0qa, ?hyx0qa⟩) hS ?restx0qa
                    case h1x0qa => (simp only [List.getElem?_toArray, List.getElem?_cons_zero]; rfl)
                    case hsx0qa | hfx0qa | hrx0qa => kernel_rfl
                    case hQx0qa => exact fun _ _ _ h => h
                    case hwx0qa => rfl
                    case hyx0qa =>
                      intro W hW
                      go_simp
                      try with_reducible rfl
                    simp only [Act.put, List.setIfInBounds_toArray, List.set_cons_succ, List.set_cons_zero]
                    refine' wpAnyH_take (i := 1) ?h1x1qa ?hsx1qa ?hfx1qa ?hrx1qa ?hQx1qa (Or.inl ⟨?hwx1qa, ?hyx1qa⟩) hS ?restx1qa
                    case h1x1qa => (simp only [List.getElem?_toArray, List.getElem?_cons_succ, List.getElem?_cons_zero]; rfl)
                    case hsx1qa | hfx1qa | hrx1qa => kernel_rfl
                    case hQx1qa => exact fun _ _ _ h => h
                    case hwx1qa => rfl
                    case hyx1qa =>
                      intro W hW
                      go_simp
                      try with_reducible rfl
                    simp only [Act.put, List.setIfInBounds_toArray, List.set_cons_succ, List.set_cons_zero]
                    refine' wpAnyH_take (i := 2) ?h1x2qa ?hsx2qa ?hfx2qa ?hrx2qa ?hQx2qa (Or.inl ⟨?hwx2qa, ?hyx2qa⟩) hS ?restx2qa
                    case h1x2qa => (simp only [List.getElem?_toArray, List.getElem?_cons_succ, List.getElem?_cons_zero]; rfl)
                    case hsx2qa | hfx2qa | hrx2qa => kernel_rfl
                    case hQx2qa => exact fun _ _ _ h => h
                    case hwx2qa => rfl
                    case hyx2qa =>
                      intro W hW
                      go_simp
                      try with_reducible rfl
                    simp only [Act.put, List.setIfInBounds_toArray, List.set_cons_succ, List.set_cons_zero]
                    refine' wpAnyH_take (i := 3) ?h1x3qa ?hsx3qa ?hfx3qa ?hrx3qa ?hQx3qa (Or.inl ⟨?hwx3qa, ?hyx3qa⟩) hS ?restx3qa
                    case h1x3qa => (simp only [List.getElem?_toArray, List.getElem?_cons_succ, List.getElem?_cons_zero]; rfl)
                    case hsx3qa | hfx3qa | hrx3qa => kernel_rfl
                    case hQx3qa => exact fun _ _ _ h => h
                    case hwx3qa => rfl
                    case hyx3qa =>
                      intro W hW
                      go_simp
                      try with_reducible rfl
                    simp only [Act.put, List.setIfInBounds_toArray, List.set_cons_succ, List.set_cons_zero]
                    refine' wpAnyH_take (i := 5) ?h1x5qa ?hsx5qa ?hfx5qa ?hrx5qa ?hQx5qa (Or.inl ⟨?hwx5qa, ?hyx5qa⟩) hS ?restx5qa
                    case h1x5qa => (simp only [List.getElem?_toArray, List.getElem?_cons_succ, List.getElem?_cons_zero]; rfl)
                    case hsx5qa | hfx5qa | hrx5qa => kernel_rfl
                    case hQx5qa => exact fun _ _ _ h => h
                    case hwx5qa => rfl
                    case hyx5qa =>
                      intro W hW
                      go_simp
                      try with_reducible rfl
                    simp only [Act.put, List.setIfInBounds_toArray, List.set_cons_succ, List.set_cons_zero]
                    refine' wpAnyH_take (i := 6) ?h1x6qa ?hsx6qa ?hfx6qa ?hrx6qa ?hQx6qa (Or.inl ⟨?hwx6qa, ?hyx6qa⟩) hS ?restx6qa
                    case h1x6qa => (simp only [List.getElem?_toArray, List.getElem?_cons_succ, List.getElem?_cons_zero]; rfl)
                    case hsx6qa | hfx6qa | hrx6qa => kernel_rfl
                    case hQx6qa => exact fun _ _ _ h => h
                    case hwx6qa => rfl
                    case hyx6qa =>
                      intro W hW
                      go_simp
                      try with_reducible rfl
                    simp only [Act.put, List.setIfInBounds_toArray, List.set_cons_succ, List.set_cons_zero]
                    refine' wpAnyH_take (i := 4) ?h1x4qa ?hsx4qa ?hfx4qa ?hrx4qa ?hQx4qa (Or.inl ⟨?hwx4qa, ?hyx4qa⟩) hS ?restx4qa
                    case h1x4qa => (simp only [List.getElem?_toArray, List.getElem?_cons_succ, List.getElem?_cons_zero]; rfl)
                    case hsx4qa | hfx4qa | hrx4qa => kernel_rfl
                    case hQx4qa => exact fun _ _ _ h => h
                    case hwx4qa => rfl
                    case hyx4qa =>
                      intro W hW
                      have tt := ST1.out W q7 (dk.TX.below TX7.out hW)
                      go_simp
                      try with_reducible rfl
                    simp only [Act.put, List.setIfInBounds_toArray, List.set_cons_succ, List.set_cons_zero]
                    refine' wpAnyH_take (i := 7) ?h1x7qa ?hsx7qa ?hfx7qa ?hrx7qa ?hQx7qa (Or.inl ⟨?hwx7qa, ?hyx7qa⟩) hS ?restx7qa
                    case h1x7qa => (simp only [List.getElem?_toArray, List.getElem?_cons_succ, List.getElem?_cons_zero]; rfl)
                    case hsx7qa | hfx7qa | hrx7qa => kernel_rfl
                    case hQx7qa => exact fun _ _ _ h => h
                    case hwx7qa => rfl
                    case hyx7qa =>
                      intro W hW
                      go_simp
                      try with_reducible rfl
                    simp only [Act.put, List.setIfInBounds_toArray, List.set_cons_succ, List.set_cons_zero]
                    refine' wpAnyH_take (i := 8) ?h1x8qa ?hsx8qa ?hfx8qa ?hrx8qa ?hQx8qa (Or.inl ⟨?hwx8qa, ?hyx8qa⟩) hS ?restx8qa
                    case h1x8qa => (simp only [List.getElem?_toArray, List.getElem?_cons_succ, List.getElem?_cons_zero]; rfl)
                    case hsx8qa | hfx8qa | hrx8qa => kernel_rfl
                    case hQx8qa => exact fun _ _ _ h => h
                    case hwx8qa => rfl
                    case hyx8qa =>
                      intro W hW
                      have tt := C7.out W hW
                      go_simp
                      try with_reducible rfl
                    simp only [Act.put, List.setIfInBounds_toArray, List.set_cons_succ, List.set_cons_zero]
                    refine wpAnyH_ready (rs := [9]) (by kernel_rfl) (by simp) ?_
                    refine' (AllReadyH.cons ?hoc9qa (fun K hK => ?stc9qa) AllReadyH.nil)
                    case hoc9qa => (simp only [List.getElem?_toArray, List.getElem?_cons_succ, List.getElem?_cons_zero]; rfl)
                    go_simp
                    refine (fullX n0 Wqas HY7.out).mono ?_
                    rintro e Wzqax9 ⟨b9, rfl, hv9, hl9, hb9⟩
                    have t9 := ST2.out Wzqax9 b9 hv9
                    have qS := hS.trans (hb9.mono hS.size)
                    go_wp2_with fail
                    refine hK.out _ _ qS (fun hHeld => ?_)
                    clear hK K qS
                    try simp only [Act.put, List.setIfInBounds_toArray, List.set_cons_succ, List.set_cons_zero]
                    clear hS hb9 hv9
                    have hS := hHeld
                    clear hHeld
                    refine wpAnyH_ready (rs := [10]) (by kernel_rfl) (by simp) ?_
                    refine' (AllReadyH.cons ?hoc10qax9 (fun K hK => ?stc10qax9) AllReadyH.nil)
                    case hoc10qax9 => (simp only [List.getElem?_toArray, List.getElem?_cons_succ, List.getElem?_cons_zero]; rfl)
                    go_simp
                    refine hK.out _ _ hS (fun hHeld => ?_)
                    clear hK K hHeld t9
                    try simp only [Act.put, List.setIfInBounds_toArray, List.set_cons_succ, List.set_cons_zero]
                    refine' wpAnyH_take (i := 11) ?h1x11qax9x10 ?hsx11qax9x10 ?hfx11qax9x10 ?hrx11qax9x10 ?hQx11qax9x10 (Or.inl ⟨?hwx11qax9x10, ?hyx11qax9x10⟩) hS ?restx11qax9x10
                    case h1x11qax9x10 => (simp only [List.getElem?_toArray, List.getElem?_cons_succ, List.getElem?_cons_zero]; rfl)
                    case hsx11qax9x10 | hfx11qax9x10 | hrx11qax9x10 => kernel_rfl
                    case hQx11qax9x10 => exact fun _ _ _ h => h
                    case hwx11qax9x10 => rfl
                    case hyx11qax9x10 =>
                      intro W hW
                      go_simp
                      try with_reducible rfl
                    simp only [Act.put, List.setIfInBounds_toArray, List.set_cons_succ, List.set_cons_zero]
                    refine' wpAnyH_take (i := 12) ?h1x12qax9x10 ?hsx12qax9x10 ?hfx12qax9x10 ?hrx12qax9x10 ?hQx12qax9x10 (Or.inl ⟨?hwx12qax9x10, ?hyx12qax9x10⟩) hS ?restx12qax9x10
                    case h1x12qax9x10 => (simp only [List.getElem?_toArray, List.getElem?_cons_succ, List.getElem?_cons_zero]; rfl)
                    case hsx12qax9x10 | hfx12qax9x10 | hrx12qax9x10 => kernel_rfl
                    case hQx12qax9x10 => exact fun _ _ _ h => h
                    case hwx12qax9x10 => rfl
                    case hyx12qax9x10 =>
                      intro W hW
                      go_simp
                      try with_reducible rfl
                    simp only [Act.put, List.setIfInBounds_toArray, List.set_cons_succ, List.set_cons_zero]
                    refine' wpAnyH_take (i := 13) ?h1x13qax9x10 ?hsx13qax9x10 ?hfx13qax9x10 ?hrx13qax9x10 ?hQx13qax9x10 (Or.inl ⟨?hwx13qax9x10, ?hyx13qax9x10⟩) hS ?restx13qax9x10
                    case h1x13qax9x10 => (simp only [List.getElem?_toArray, List.getElem?_cons_succ, List.getElem?_cons_zero]; rfl)
                    case hsx13qax9x10 | hfx13qax9x10 | hrx13qax9x10 => kernel_rfl
                    case hQx13qax9x10 => exact fun _ _ _ h => h
                    case hwx13qax9x10 => rfl
                    case hyx13qax9x10 =>
                      intro W hW
                      go_simp
                      try with_reducible rfl
                    simp only [Act.put, List.setIfInBounds_toArray, List.set_cons_succ, List.set_cons_zero]
                    refine' wpAnyH_take (i := 14) ?h1x14qax9x10 ?hsx14qax9x10 ?hfx14qax9x10 ?hrx14qax9x10 ?hQx14qax9x10 (Or.inr ⟨?hwx14qax9x10, rfl⟩) hS ?restx14qax9x10
                    case h1x14qax9x10 => (simp only [List.getElem?_toArray, List.getElem?_cons_succ, List.getElem?_cons_zero]; rfl)
                    case hsx14qax9x10 | hfx14qax9x10 | hrx14qax9x10 => kernel_rfl
                    case hQx14qax9x10 => exact fun _ _ _ h => h
                    case hwx14qax9x10 => rfl
                    simp only [Act.put, List.setIfInBounds_toArray, List.set_cons_succ, List.set_cons_zero]
                    refine' wpAnyH_take (i := 15) ?h1x15qax9x10 ?hsx15qax9x10 ?hfx15qax9x10 ?hrx15qax9x10 ?hQx15qax9x10 (Or.inr ⟨?hwx15qax9x10, rfl⟩) hS ?restx15qax9x10
                    case h1x15qax9x10 => (simp only [List.getElem?_toArray, List.getElem?_cons_succ, List.getElem?_cons_zero]; rfl)
                    case hsx15qax9x10 | hfx15qax9x10 | hrx15qax9x10 => kernel_rfl
                    case hQx15qax9x10 => exact fun _ _ _ h => h
                    case hwx15qax9x10 => rfl
                    simp only [Act.put, List.setIfInBounds_toArray, List.set_cons_succ, List.set_cons_zero]
                    refine' wpAnyH_take (i := 16) ?h1x16qax9x10 ?hsx16qax9x10 ?hfx16qax9x10 ?hrx16qax9x10 ?hQx16qax9x10 (Or.inr ⟨?hwx16qax9x10, rfl⟩) hS ?restx16qax9x10
                    case h1x16qax9x10 => (simp only [List.getElem?_toArray, List.getElem?_cons_succ, List.getElem?_cons_zero]; rfl)
                    case hsx16qax9x10 | hfx16qax9x10 | hrx16qax9x10 => kernel_rfl
                    case hQx16qax9x10 => exact fun _ _ _ h => h
                    case hwx16qax9x10 => rfl
                    simp only [Act.put, List.setIfInBounds_toArray, List.set_cons_succ, List.set_cons_zero]
                    refine' wpAnyH_take (i := 17) ?h1x17qax9x10 ?hsx17qax9x10 ?hfx17qax9x10 ?hrx17qax9x10 ?hQx17qax9x10 (Or.inl ⟨?hwx17qax9x10, ?hyx17qax9x10⟩) hS ?restx17qax9x10
                    case h1x17qax9x10 => (simp only [List.getElem?_toArray, List.getElem?_cons_succ, List.getElem?_cons_zero]; rfl)
                    case hsx17qax9x10 | hfx17qax9x10 | hrx17qax9x10 => kernel_rfl
                    case hQx17qax9x10 => exact fun _ _ _ h => h
                    case hwx17qax9x10 => rfl
                    case hyx17qax9x10 =>
                      intro W hW
                      go_simp
                      try with_reducible rfl
                    simp only [Act.put, List.setIfInBounds_toArray, List.set_cons_succ, List.set_cons_zero]
                    refine wpAnyH_done (by kernel_rfl) ?_ _
                    have qL := L7.out.below hS
                    have qlo : lo ≤ Wzqax9.heap.size := Nat.le_trans LO7.out hS.size
                    have L8 := Lib.hid qL
                    have LO8 := Lib.hid qlo
                    clear hS qL qlo L7 LO7
                    go_wp2_with fail
                    go_roundg (E.length - (k + 1))
                    case measure => have := HR6.out; omega
                    case rel => exact ⟨k + 1, S7, T7, by have := HR6.out; omega, by go_num, by rw [show i + (k + 1) = i + k + 1 by omega]; exact L8.out, LO8.out⟩
                  · have CLK : Hid (hl.clk hl.sha T7 ≠ none) := fun e => hb (hl.clk_none hl.sha e IN7.out.1 IN7.out.2 HS.out)
                    obtain ⟨s1, hs1⟩ : ∃ st, st = strOfNums (bI y') := ⟨_, rfl⟩
                    obtain ⟨s2, hs2⟩ : ∃ st, st = strOfNums (bI n0) := ⟨_, rfl⟩
                    have ST1 : Hid (∀ (W : World) (b : Nat), dk.TX W (.slice (some ⟨b, 0, none⟩) 512 512) (dk.tx y') → (convert 37 9 (.slice (some ⟨b, 0, none⟩) 512 512)).run Tryd.prog W = .ok (.string s1) W) := fun W b h => by rw [hs1]; exact (tx_sees (p := True) h trivial).str
                    have ST2 : Hid (∀ (W : World) (b : Nat), dk.TX W (.slice (some ⟨b, 0, none⟩) 512 512) (dk.tx n0) → (convert 37 9 (.slice (some ⟨b, 0, none⟩) 512 512)).run Tryd.prog W = .ok (.string s2) W) := fun W b h => by rw [hs2]; exact (tx_sees (p := True) h trivial).str
                    have HNE : Hid ((s1.toList == s2.toList) = false) := by
                      show _ = _
                      rw [hs1, hs2, hl.str_eq (bI_byt trivial) (bI_byt trivial)]
                      exact decide_eq_false hb
                    clear hs1 hs2 hb
                    go_wp2_with fail
                    refine wp_region_held_drew (S := fun W => Below w7.heap.size w7 W) (by kernel_rfl) ((Below.refl _ _).drew) (fun hS => ?_)
                    have hb0 : Below w7.heap.size w7 w7.drew := (Below.refl _ _).drew
                    clear hb0 
                    generalize w7.drew = Wqbs at hS  ⊢
                    refine' wpAnyH_take (i := 0) ?h1x0qb ?hsx0qb ?hfx0qb ?hrx0qb ?hQx0qb (Or.inl ⟨?hwx0qb, ?hyx0qb⟩) hS ?restx0qb
                    case h1x0qb => (simp only [List.getElem?_toArray, List.getElem?_cons_zero]; rfl)
                    case hsx0qb | hfx0qb | hrx0qb => kernel_rfl
                    case hQx0qb => exact fun _ _ _ h => h
                    case hwx0qb => rfl
                    case hyx0qb =>
                      intro W hW
                      go_simp
                      try with_reducible rfl
                    simp only [Act.put, List.setIfInBounds_toArray, List.set_cons_succ, List.set_cons_zero]
                    refine' wpAnyH_take (i := 1) ?h1x1qb ?hsx1qb ?hfx1qb ?hrx1qb ?hQx1qb (Or.inl ⟨?hwx1qb, ?hyx1qb⟩) hS ?restx1qb
                    case h1x1qb => (simp only [List.getElem?_toArray, List.getElem?_cons_succ, List.getElem?_cons_zero]; rfl)
                    case hsx1qb | hfx1qb | hrx1qb => kernel_rfl
                    case hQx1qb => exact fun _ _ _ h => h
                    case hwx1qb => rfl
                    case hyx1qb =>
                      intro W hW
                      go_simp
                      try with_reducible rfl
                    simp only [Act.put, List.setIfInBounds_toArray, List.set_cons_succ, List.set_cons_zero]
                    refine' wpAnyH_take (i := 2) ?h1x2qb ?hsx2qb ?hfx2qb ?hrx2qb ?hQx2qb (Or.inl ⟨?hwx2qb, ?hyx2qb⟩) hS ?restx2qb
                    case h1x2qb => (simp only [List.getElem?_toArray, List.getElem?_cons_succ, List.getElem?_cons_zero]; rfl)
                    case hsx2qb | hfx2qb | hrx2qb => kernel_rfl
                    case hQx2qb => exact fun _ _ _ h => h
                    case hwx2qb => rfl
                    case hyx2qb =>
                      intro W hW
                      go_simp
                      try with_reducible rfl
                    simp only [Act.put, List.setIfInBounds_toArray, List.set_cons_succ, List.set_cons_zero]
                    refine' wpAnyH_take (i := 3) ?h1x3qb ?hsx3qb ?hfx3qb ?hrx3qb ?hQx3qb (Or.inl ⟨?hwx3qb, ?hyx3qb⟩) hS ?restx3qb
                    case h1x3qb => (simp only [List.getElem?_toArray, List.getElem?_cons_succ, List.getElem?_cons_zero]; rfl)
                    case hsx3qb | hfx3qb | hrx3qb => kernel_rfl
                    case hQx3qb => exact fun _ _ _ h => h
                    case hwx3qb => rfl
                    case hyx3qb =>
                      intro W hW
                      go_simp
                      try with_reducible rfl
                    simp only [Act.put, List.setIfInBounds_toArray, List.set_cons_succ, List.set_cons_zero]
                    refine' wpAnyH_take (i := 5) ?h1x5qb ?hsx5qb ?hfx5qb ?hrx5qb ?hQx5qb (Or.inl ⟨?hwx5qb, ?hyx5qb⟩) hS ?restx5qb
                    case h1x5qb => (simp only [List.getElem?_toArray, List.getElem?_cons_succ, List.getElem?_cons_zero]; rfl)
                    case hsx5qb | hfx5qb | hrx5qb => kernel_rfl
                    case hQx5qb => exact fun _ _ _ h => h
                    case hwx5qb => rfl
                    case hyx5qb =>
                      intro W hW
                      go_simp
                      try with_reducible rfl
                    simp only [Act.put, List.setIfInBounds_toArray, List.set_cons_succ, List.set_cons_zero]
                    refine' wpAnyH_take (i := 6) ?h1x6qb ?hsx6qb ?hfx6qb ?hrx6qb ?hQx6qb (Or.inl ⟨?hwx6qb, ?hyx6qb⟩) hS ?restx6qb
                    case h1x6qb => (simp only [List.getElem?_toArray, List.getElem?_cons_succ, List.getElem?_cons_zero]; rfl)
                    case hsx6qb | hfx6qb | hrx6qb => kernel_rfl
                    case hQx6qb => exact fun _ _ _ h => h
                    case hwx6qb => rfl
                    case hyx6qb =>
                      intro W hW
                      go_simp
                      try with_reducible rfl
                    simp only [Act.put, List.setIfInBounds_toArray, List.set_cons_succ, List.set_cons_zero]
                    refine' wpAnyH_take (i := 4) ?h1x4qb ?hsx4qb ?hfx4qb ?hrx4qb ?hQx4qb (Or.inl ⟨?hwx4qb, ?hyx4qb⟩) hS ?restx4qb
                    case h1x4qb => (simp only [List.getElem?_toArray, List.getElem?_cons_succ, List.getElem?_cons_zero]; rfl)
                    case hsx4qb | hfx4qb | hrx4qb => kernel_rfl
                    case hQx4qb => exact fun _ _ _ h => h
                    case hwx4qb => rfl
                    case hyx4qb =>
                      intro W hW
                      have tt := ST1.out W q7 (dk.TX.below TX7.out hW)
                      go_simp
                      try with_reducible rfl
                    simp only [Act.put, List.setIfInBounds_toArray, List.set_cons_succ, List.set_cons_zero]
                    refine' wpAnyH_take (i := 7) ?h1x7qb ?hsx7qb ?hfx7qb ?hrx7qb ?hQx7qb (Or.inl ⟨?hwx7qb, ?hyx7qb⟩) hS ?restx7qb
                    case h1x7qb => (simp only [List.getElem?_toArray, List.getElem?_cons_succ, List.getElem?_cons_zero]; rfl)
                    case hsx7qb | hfx7qb | hrx7qb => kernel_rfl
                    case hQx7qb => exact fun _ _ _ h => h
                    case hwx7qb => rfl
                    case hyx7qb =>
                      intro W hW
                      go_simp
                      try with_reducible rfl
                    simp only [Act.put, List.setIfInBounds_toArray, List.set_cons_succ, List.set_cons_zero]
                    refine' wpAnyH_take (i := 8) ?h1x8qb ?hsx8qb ?hfx8qb ?hrx8qb ?hQx8qb (Or.inl ⟨?hwx8qb, ?hyx8qb⟩) hS ?restx8qb
                    case h1x8qb => (simp only [List.getElem?_toArray, List.getElem?_cons_succ, List.getElem?_cons_zero]; rfl)
                    case hsx8qb | hfx8qb | hrx8qb => kernel_rfl
                    case hQx8qb => exact fun _ _ _ h => h
                    case hwx8qb => rfl
                    case hyx8qb =>
                      intro W hW
                      have tt := C7.out W hW
                      go_simp
                      try with_reducible rfl
                    simp only [Act.put, List.setIfInBounds_toArray, List.set_cons_succ, List.set_cons_zero]
                    refine wpAnyH_ready (rs := [9]) (by kernel_rfl) (by simp) ?_
                    refine' (AllReadyH.cons ?hoc9qb (fun K hK => ?stc9qb) AllReadyH.nil)
                    case hoc9qb => (simp only [List.getElem?_toArray, List.getElem?_cons_succ, List.getElem?_cons_zero]; rfl)
                    go_simp
                    refine (fullX n0 Wqbs HY7.out).mono ?_
                    rintro e Wzqbx9 ⟨b9, rfl, hv9, hl9, hb9⟩
                    have t9 := ST2.out Wzqbx9 b9 hv9
                    have qS := hS.trans (hb9.mono hS.size)
                    go_wp2_with fail
                    refine hK.out _ _ qS (fun hHeld => ?_)
                    clear hK K qS
                    try simp only [Act.put, List.setIfInBounds_toArray, List.set_cons_succ, List.set_cons_zero]
                    clear hS hb9 hv9
                    have hS := hHeld
                    clear hHeld
                    refine wpAnyH_ready (rs := [10]) (by kernel_rfl) (by simp) ?_
                    refine' (AllReadyH.cons ?hoc10qbx9 (fun K hK => ?stc10qbx9) AllReadyH.nil)
                    case hoc10qbx9 => (simp only [List.getElem?_toArray, List.getElem?_cons_succ, List.getElem?_cons_zero]; rfl)
                    go_simp
                    refine hK.out _ _ hS (fun hHeld => ?_)
                    clear hK K hHeld t9
                    try simp only [Act.put, List.setIfInBounds_toArray, List.set_cons_succ, List.set_cons_zero]
                    refine' wpAnyH_take (i := 11) ?h1x11qbx9x10 ?hsx11qbx9x10 ?hfx11qbx9x10 ?hrx11qbx9x10 ?hQx11qbx9x10 (Or.inl ⟨?hwx11qbx9x10, ?hyx11qbx9x10⟩) hS ?restx11qbx9x10
                    case h1x11qbx9x10 => (simp only [List.getElem?_toArray, List.getElem?_cons_succ, List.getElem?_cons_zero]; rfl)
                    case hsx11qbx9x10 | hfx11qbx9x10 | hrx11qbx9x10 => kernel_rfl
                    case hQx11qbx9x10 => exact fun _ _ _ h => h
                    case hwx11qbx9x10 => rfl
                    case hyx11qbx9x10 =>
                      intro W hW
                      have hne := HNE.out
                      go_simp
                      try with_reducible rfl
                    simp only [Act.put, List.setIfInBounds_toArray, List.set_cons_succ, List.set_cons_zero]
                    refine' wpAnyH_take (i := 12) ?h1x12qbx9x10 ?hsx12qbx9x10 ?hfx12qbx9x10 ?hrx12qbx9x10 ?hQx12qbx9x10 (Or.inl ⟨?hwx12qbx9x10, ?hyx12qbx9x10⟩) hS ?restx12qbx9x10
                    case h1x12qbx9x10 => (simp only [List.getElem?_toArray, List.getElem?_cons_succ, List.getElem?_cons_zero]; rfl)
                    case hsx12qbx9x10 | hfx12qbx9x10 | hrx12qbx9x10 => kernel_rfl
                    case hQx12qbx9x10 => exact fun _ _ _ h => h
                    case hwx12qbx9x10 => rfl
                    case hyx12qbx9x10 =>
                      intro W hW
                      go_simp
                      try with_reducible rfl
                    simp only [Act.put, List.setIfInBounds_toArray, List.set_cons_succ, List.set_cons_zero]
                    refine' wpAnyH_take (i := 13) ?h1x13qbx9x10 ?hsx13qbx9x10 ?hfx13qbx9x10 ?hrx13qbx9x10 ?hQx13qbx9x10 (Or.inl ⟨?hwx13qbx9x10, ?hyx13qbx9x10⟩) hS ?restx13qbx9x10
                    case h1x13qbx9x10 => (simp only [List.getElem?_toArray, List.getElem?_cons_succ, List.getElem?_cons_zero]; rfl)
                    case hsx13qbx9x10 | hfx13qbx9x10 | hrx13qbx9x10 => kernel_rfl
                    case hQx13qbx9x10 => exact fun _ _ _ h => h
                    case hwx13qbx9x10 => rfl
                    case hyx13qbx9x10 =>
                      intro W hW
                      go_simp
                      try with_reducible rfl
                    simp only [Act.put, List.setIfInBounds_toArray, List.set_cons_succ, List.set_cons_zero]
                    refine' wpAnyH_take (i := 14) ?h1x14qbx9x10 ?hsx14qbx9x10 ?hfx14qbx9x10 ?hrx14qbx9x10 ?hQx14qbx9x10 (Or.inl ⟨?hwx14qbx9x10, ?hyx14qbx9x10⟩) hS ?restx14qbx9x10
                    case h1x14qbx9x10 => (simp only [List.getElem?_toArray, List.getElem?_cons_succ, List.getElem?_cons_zero]; rfl)
                    case hsx14qbx9x10 | hfx14qbx9x10 | hrx14qbx9x10 => kernel_rfl
                    case hQx14qbx9x10 => exact fun _ _ _ h => h
                    case hwx14qbx9x10 => rfl
                    case hyx14qbx9x10 =>
                      intro W hW
                      go_simp
                      try with_reducible rfl
                    simp only [Act.put, List.setIfInBounds_toArray, List.set_cons_succ, List.set_cons_zero]
                    refine wpAnyH_ready (rs := [15]) (by kernel_rfl) (by simp) ?_
                    refine' (AllReadyH.cons ?hoc15qbx9x10 (fun K hK => ?stc15qbx9x10) AllReadyH.nil)
                    case hoc15qbx9x10 => (simp only [List.getElem?_toArray, List.getElem?_cons_succ, List.getElem?_cons_zero]; rfl)
                    go_simp
                    refine (clash_some (L7.out.below hS).pw CLK.out).mono ?_
                    rintro e Wcqbx9x10x15 ⟨rfl, hb9⟩
                    have qS := hS.trans (hb9.mono hS.size)
                    go_wp2_with fail
                    refine hK.out _ _ qS (fun hHeld => ?_)
                    clear hK K qS
                    try simp only [Act.put, List.setIfInBounds_toArray, List.set_cons_succ, List.set_cons_zero]
                    clear hS hb9
                    have hS := hHeld
                    clear hHeld
                    refine' wpAnyH_take (i := 16) ?h1x16qbx9x10x15 ?hsx16qbx9x10x15 ?hfx16qbx9x10x15 ?hrx16qbx9x10x15 ?hQx16qbx9x10x15 (Or.inl ⟨?hwx16qbx9x10x15, ?hyx16qbx9x10x15⟩) hS ?restx16qbx9x10x15
                    case h1x16qbx9x10x15 => (simp only [List.getElem?_toArray, List.getElem?_cons_succ, List.getElem?_cons_zero]; rfl)
                    case hsx16qbx9x10x15 | hfx16qbx9x10x15 | hrx16qbx9x10x15 => kernel_rfl
                    case hQx16qbx9x10x15 => exact fun _ _ _ h => h
                    case hwx16qbx9x10x15 => rfl
                    case hyx16qbx9x10x15 =>
                      intro W hW
                      go_simp
                      try with_reducible rfl
                    simp only [Act.put, List.setIfInBounds_toArray, List.set_cons_succ, List.set_cons_zero]
                    refine' wpAnyH_take (i := 17) ?h1x17qbx9x10x15 ?hsx17qbx9x10x15 ?hfx17qbx9x10x15 ?hrx17qbx9x10x15 ?hQx17qbx9x10x15 (Or.inl ⟨?hwx17qbx9x10x15, ?hyx17qbx9x10x15⟩) hS ?restx17qbx9x10x15
                    case h1x17qbx9x10x15 => (simp only [List.getElem?_toArray, List.getElem?_cons_succ, List.getElem?_cons_zero]; rfl)
                    case hsx17qbx9x10x15 | hfx17qbx9x10x15 | hrx17qbx9x10x15 => kernel_rfl
                    case hQx17qbx9x10x15 => exact fun _ _ _ h => h
                    case hwx17qbx9x10x15 => rfl
                    case hyx17qbx9x10x15 =>
                      intro W hW
                      go_simp
                      try with_reducible rfl
                    simp only [Act.put, List.setIfInBounds_toArray, List.set_cons_succ, List.set_cons_zero]
                    refine wpAnyH_done (by kernel_rfl) ?_ _
                    have qL := L7.out.below hS
                    have qlo : lo ≤ Wcqbx9x10x15.heap.size := Nat.le_trans LO7.out hS.size
                    have L8 := Lib.hid qL
                    have LO8 := Lib.hid qlo
                    clear hS qL qlo L7 LO7
                    go_wp2_with fail
                    go_roundg (E.length - (k + 1))
                    case measure => have := HR6.out; omega
                    case rel => exact ⟨k + 1, S7, T7, by have := HR6.out; omega, by go_num, by rw [show i + (k + 1) = i + k + 1 by omega]; exact L8.out, LO8.out⟩
                · simp only [if_neg hs] at g7
                  have GET := Lib.hid g7
                  clear g7 hs
                  go_wp2_with (first | (refine wpList_load_mid rfl 26 (.tmp 121) rfl bl (ol + k * 33) rfl Cl _ RNG.out Tryd.underlying26 rfl HI.out ?_))
                  refine GET.out.mono ?_
                  rintro e w7 ⟨q7, S7, T7, rfl, tx7, hts7, hin7, hsz7⟩
                  have L7 := Lib.hid hts7
                  have LO7 : Hid (lo ≤ w7.heap.size) := Nat.le_trans LO6.out hsz7
                  clear hts7 hin7 hsz7 tx7 GET RNG L6 LO6 HB0 C0 HI LN HT7
                  go_wp2_with fail
                  refine wp_region_held_drew (S := fun W => Below w7.heap.size w7 W) (by kernel_rfl) ((Below.refl _ _).drew) (fun hS => ?_)
                  have hb0 : Below w7.heap.size w7 w7.drew := (Below.refl _ _).drew
                  clear hb0 
                  generalize w7.drew = Wqcs at hS  ⊢
                  refine' wpAnyH_take (i := 0) ?h1x0qc ?hsx0qc ?hfx0qc ?hrx0qc ?hQx0qc (Or.inl ⟨?hwx0qc, ?hyx0qc⟩) hS ?restx0qc
                  case h1x0qc => (simp only [List.getElem?_toArray, List.getElem?_cons_zero]; rfl)
                  case hsx0qc | hfx0qc | hrx0qc => kernel_rfl
                  case hQx0qc => exact fun _ _ _ h => h
                  case hwx0qc => rfl
                  case hyx0qc =>
                    intro W hW
                    go_simp
                    try with_reducible rfl
                  simp only [Act.put, List.setIfInBounds_toArray, List.set_cons_succ, List.set_cons_zero]
                  refine' wpAnyH_take (i := 1) ?h1x1qc ?hsx1qc ?hfx1qc ?hrx1qc ?hQx1qc (Or.inl ⟨?hwx1qc, ?hyx1qc⟩) hS ?restx1qc
                  case h1x1qc => (simp only [List.getElem?_toArray, List.getElem?_cons_succ, List.getElem?_cons_zero]; rfl)
                  case hsx1qc | hfx1qc | hrx1qc => kernel_rfl
                  case hQx1qc => exact fun _ _ _ h => h
                  case hwx1qc => rfl
                  case hyx1qc =>
                    intro W hW
                    go_simp
                    try with_reducible rfl
                  simp only [Act.put, List.setIfInBounds_toArray, List.set_cons_succ, List.set_cons_zero]
                  refine' wpAnyH_take (i := 2) ?h1x2qc ?hsx2qc ?hfx2qc ?hrx2qc ?hQx2qc (Or.inl ⟨?hwx2qc, ?hyx2qc⟩) hS ?restx2qc
                  case h1x2qc => (simp only [List.getElem?_toArray, List.getElem?_cons_succ, List.getElem?_cons_zero]; rfl)
                  case hsx2qc | hfx2qc | hrx2qc => kernel_rfl
                  case hQx2qc => exact fun _ _ _ h => h
                  case hwx2qc => rfl
                  case hyx2qc =>
                    intro W hW
                    go_simp
                    try with_reducible rfl
                  simp only [Act.put, List.setIfInBounds_toArray, List.set_cons_succ, List.set_cons_zero]
                  refine' wpAnyH_take (i := 3) ?h1x3qc ?hsx3qc ?hfx3qc ?hrx3qc ?hQx3qc (Or.inr ⟨?hwx3qc, rfl⟩) hS ?restx3qc
                  case h1x3qc => (simp only [List.getElem?_toArray, List.getElem?_cons_succ, List.getElem?_cons_zero]; rfl)
                  case hsx3qc | hfx3qc | hrx3qc => kernel_rfl
                  case hQx3qc => exact fun _ _ _ h => h
                  case hwx3qc => rfl
                  simp only [Act.put, List.setIfInBounds_toArray, List.set_cons_succ, List.set_cons_zero]
                  refine' wpAnyH_take (i := 5) ?h1x5qc ?hsx5qc ?hfx5qc ?hrx5qc ?hQx5qc (Or.inr ⟨?hwx5qc, rfl⟩) hS ?restx5qc
                  case h1x5qc => (simp only [List.getElem?_toArray, List.getElem?_cons_succ, List.getElem?_cons_zero]; rfl)
                  case hsx5qc | hfx5qc | hrx5qc => kernel_rfl
                  case hQx5qc => exact fun _ _ _ h => h
                  case hwx5qc => rfl
                  simp only [Act.put, List.setIfInBounds_toArray, List.set_cons_succ, List.set_cons_zero]
                  refine' wpAnyH_take (i := 6) ?h1x6qc ?hsx6qc ?hfx6qc ?hrx6qc ?hQx6qc (Or.inr ⟨?hwx6qc, rfl⟩) hS ?restx6qc
                  case h1x6qc => (simp only [List.getElem?_toArray, List.getElem?_cons_succ, List.getElem?_cons_zero]; rfl)
                  case hsx6qc | hfx6qc | hrx6qc => kernel_rfl
                  case hQx6qc => exact fun _ _ _ h => h
                  case hwx6qc => rfl
                  simp only [Act.put, List.setIfInBounds_toArray, List.set_cons_succ, List.set_cons_zero]
                  refine' wpAnyH_take (i := 4) ?h1x4qc ?hsx4qc ?hfx4qc ?hrx4qc ?hQx4qc (Or.inr ⟨?hwx4qc, rfl⟩) hS ?restx4qc
                  case h1x4qc => (simp only [List.getElem?_toArray, List.getElem?_cons_succ, List.getElem?_cons_zero]; rfl)
                  case hsx4qc | hfx4qc | hrx4qc => kernel_rfl
                  case hQx4qc => exact fun _ _ _ h => h
                  case hwx4qc => rfl
                  simp only [Act.put, List.setIfInBounds_toArray, List.set_cons_succ, List.set_cons_zero]
                  refine' wpAnyH_take (i := 7) ?h1x7qc ?hsx7qc ?hfx7qc ?hrx7qc ?hQx7qc (Or.inr ⟨?hwx7qc, rfl⟩) hS ?restx7qc
                  case h1x7qc => (simp only [List.getElem?_toArray, List.getElem?_cons_succ, List.getElem?_cons_zero]; rfl)
                  case hsx7qc | hfx7qc | hrx7qc => kernel_rfl
                  case hQx7qc => exact fun _ _ _ h => h
                  case hwx7qc => rfl
                  simp only [Act.put, List.setIfInBounds_toArray, List.set_cons_succ, List.set_cons_zero]
                  refine' wpAnyH_take (i := 8) ?h1x8qc ?hsx8qc ?hfx8qc ?hrx8qc ?hQx8qc (Or.inr ⟨?hwx8qc, rfl⟩) hS ?restx8qc
                  case h1x8qc => (simp only [List.getElem?_toArray, List.getElem?_cons_succ, List.getElem?_cons_zero]; rfl)
                  case hsx8qc | hfx8qc | hrx8qc => kernel_rfl
                  case hQx8qc => exact fun _ _ _ h => h
                  case hwx8qc => rfl
                  simp only [Act.put, List.setIfInBounds_toArray, List.set_cons_succ, List.set_cons_zero]
                  refine' wpAnyH_take (i := 9) ?h1x9qc ?hsx9qc ?hfx9qc ?hrx9qc ?hQx9qc (Or.inr ⟨?hwx9qc, rfl⟩) hS ?restx9qc
                  case h1x9qc => (simp only [List.getElem?_toArray, List.getElem?_cons_succ, List.getElem?_cons_zero]; rfl)
                  case hsx9qc | hfx9qc | hrx9qc => kernel_rfl
                  case hQx9qc => exact fun _ _ _ h => h
                  case hwx9qc => rfl
                  simp only [Act.put, List.setIfInBounds_toArray, List.set_cons_succ, List.set_cons_zero]
                  refine' wpAnyH_take (i := 10) ?h1x10qc ?hsx10qc ?hfx10qc ?hrx10qc ?hQx10qc (Or.inr ⟨?hwx10qc, rfl⟩) hS ?restx10qc
                  case h1x10qc => (simp only [List.getElem?_toArray, List.getElem?_cons_succ, List.getElem?_cons_zero]; rfl)
                  case hsx10qc | hfx10qc | hrx10qc => kernel_rfl
                  case hQx10qc => exact fun _ _ _ h => h
                  case hwx10qc => rfl
                  simp only [Act.put, List.setIfInBounds_toArray, List.set_cons_succ, List.set_cons_zero]
                  refine' wpAnyH_take (i := 11) ?h1x11qc ?hsx11qc ?hfx11qc ?hrx11qc ?hQx11qc (Or.inr ⟨?hwx11qc, rfl⟩) hS ?restx11qc
                  case h1x11qc => (simp only [List.getElem?_toArray, List.getElem?_cons_succ, List.getElem?_cons_zero]; rfl)
                  case hsx11qc | hfx11qc | hrx11qc => kernel_rfl
                  case hQx11qc => exact fun _ _ _ h => h
                  case hwx11qc => rfl
                  simp only [Act.put, List.setIfInBounds_toArray, List.set_cons_succ, List.set_cons_zero]
                  refine' wpAnyH_take (i := 12) ?h1x12qc ?hsx12qc ?hfx12qc ?hrx12qc ?hQx12qc (Or.inl ⟨?hwx12qc, ?hyx12qc⟩) hS ?restx12qc
                  case h1x12qc => (simp only [List.getElem?_toArray, List.getElem?_cons_succ, List.getElem?_cons_zero]; rfl)
                  case hsx12qc | hfx12qc | hrx12qc => kernel_rfl
                  case hQx12qc => exact fun _ _ _ h => h
                  case hwx12qc => rfl
                  case hyx12qc =>
                    intro W hW
                    go_simp
                    try with_reducible rfl
                  simp only [Act.put, List.setIfInBounds_toArray, List.set_cons_succ, List.set_cons_zero]
                  refine' wpAnyH_take (i := 13) ?h1x13qc ?hsx13qc ?hfx13qc ?hrx13qc ?hQx13qc (Or.inl ⟨?hwx13qc, ?hyx13qc⟩) hS ?restx13qc
                  case h1x13qc => (simp only [List.getElem?_toArray, List.getElem?_cons_succ, List.getElem?_cons_zero]; rfl)
                  case hsx13qc | hfx13qc | hrx13qc => kernel_rfl
                  case hQx13qc => exact fun _ _ _ h => h
                  case hwx13qc => rfl
                  case hyx13qc =>
                    intro W hW
                    go_simp
                    try with_reducible rfl
                  simp only [Act.put, List.setIfInBounds_toArray, List.set_cons_succ, List.set_cons_zero]
                  refine' wpAnyH_take (i := 14) ?h1x14qc ?hsx14qc ?hfx14qc ?hrx14qc ?hQx14qc (Or.inr ⟨?hwx14qc, rfl⟩) hS ?restx14qc
                  case h1x14qc => (simp only [List.getElem?_toArray, List.getElem?_cons_succ, List.getElem?_cons_zero]; rfl)
                  case hsx14qc | hfx14qc | hrx14qc => kernel_rfl
                  case hQx14qc => exact fun _ _ _ h => h
                  case hwx14qc => rfl
                  simp only [Act.put, List.setIfInBounds_toArray, List.set_cons_succ, List.set_cons_zero]
                  refine' wpAnyH_take (i := 15) ?h1x15qc ?hsx15qc ?hfx15qc ?hrx15qc ?hQx15qc (Or.inr ⟨?hwx15qc, rfl⟩) hS ?restx15qc
                  case h1x15qc => (simp only [List.getElem?_toArray, List.getElem?_cons_succ, List.getElem?_cons_zero]; rfl)
                  case hsx15qc | hfx15qc | hrx15qc => kernel_rfl
                  case hQx15qc => exact fun _ _ _ h => h
                  case hwx15qc => rfl
                  simp only [Act.put, List.setIfInBounds_toArray, List.set_cons_succ, List.set_cons_zero]
                  refine' wpAnyH_take (i := 16) ?h1x16qc ?hsx16qc ?hfx16qc ?hrx16qc ?hQx16qc (Or.inr ⟨?hwx16qc, rfl⟩) hS ?restx16qc
                  case h1x16qc => (simp only [List.getElem?_toArray, List.getElem?_cons_succ, List.getElem?_cons_zero]; rfl)
                  case hsx16qc | hfx16qc | hrx16qc => kernel_rfl
                  case hQx16qc => exact fun _ _ _ h => h
                  case hwx16qc => rfl
                  simp only [Act.put, List.setIfInBounds_toArray, List.set_cons_succ, List.set_cons_zero]
                  refine' wpAnyH_take (i := 17) ?h1x17qc ?hsx17qc ?hfx17qc ?hrx17qc ?hQx17qc (Or.inl ⟨?hwx17qc, ?hyx17qc⟩) hS ?restx17qc
                  case h1x17qc => (simp only [List.getElem?_toArray, List.getElem?_cons_succ, List.getElem?_cons_zero]; rfl)
                  case hsx17qc | hfx17qc | hrx17qc => kernel_rfl
                  case hQx17qc => exact fun _ _ _ h => h
                  case hwx17qc => rfl
                  case hyx17qc =>
                    intro W hW
                    go_simp
                    try with_reducible rfl
                  simp only [Act.put, List.setIfInBounds_toArray, List.set_cons_succ, List.set_cons_zero]
                  refine wpAnyH_done (by kernel_rfl) ?_ _
                  have qL := L7.out.below hS
                  have qlo : lo ≤ Wqcs.heap.size := Nat.le_trans LO7.out hS.size
                  have L8 := Lib.hid qL
                  have LO8 := Lib.hid qlo
                  clear hS qL qlo L7 LO7
                  go_wp2_with fail
                  go_roundg (E.length - (k + 1))
                  case measure => have := HR6.out; omega
                  case rel => exact ⟨k + 1, S7, T7, by have := HR6.out; omega, by go_num, by rw [show i + (k + 1) = i + k + 1 by omega]; exact L8.out, LO8.out⟩
              · have AL := Lib.hid (alive wr L6.out.pw.gg)
                go_wp2_with fail
                refine AL.out.mono ?_
                rintro e w9 ⟨rfl, hb9⟩
                go_wp2_with fail
                go_ret
                exact ⟨rfl, L6.out.b.trans (hb9.mono L6.out.b.size)⟩
end Go.Proofs.YtjdamlmoegippaaDoor.pl
