/-
  Contracts of the document's own functions of package aes: a block turned back. Condition: the numbers are bytes.
-/
import Derived.Test.YtekffhopmicalaaRefD
namespace Go.Proofs.Ytekffhopmicalaa
open Go.RowKit
theorem mv_111 (S : List Nat) : mv 1 (mv 1 (mv 1 S)) = mv 3 S := by
  unfold mv
  refine tab_congr fun i hi => ?_
  rw [tab_at _ _ _ (Nat.mod_lt _ (by omega)), tab_at _ _ _ (Nat.mod_lt _ (by omega))]
  congr 1
  omega
set_option maxRecDepth 100000 in
set_option maxHeartbeats 8000000 in
theorem refBack (g : Nat) (key b : List Nat) (x : Option Addr) (c : Nat) (w : World) (hk : Bts 32 key) (hb' : Bts 16 b) (hr : RC w g key) (hs : Sees w (.slice x 16 c) b) : Calls Try.prog 24 #[.pointer (some ⟨g, 0, none⟩), .slice x 16 c] w (SP w (back (rkey key) b)) := by
  have HK := Lib.hid hk
  have HBB' := Lib.hid hb'
  have HR := Lib.hid hr
  have HS := Lib.hid hs
  have R0 : Hid (∀ W, RC W g key → Calls Try.prog 51 #[.pointer (some ⟨g, 0, none⟩), .int .i64 0] W (SP W (rkey key 0))) := fun W h => spRound 0 (by omega) hk h
  have KB : Hid (∀ i, Bts 16 (rkey key i)) := rkey_bts hk
  have TB : Hid (∀ i, Bts 16 (bkn (rkey key) b i)) := bkn_bts hb'
  clear hk hb' hr hs
  go_enter Try.func24, Try.ntmps24
  go_wp2_with fail
  go_loopw [1, 5, 6, 7] (fun v vi _ _ wr => ∃ (k i : Nat) (q : Option Addr) (cp : Nat), i + k = 14 ∧ vi = .int .i64 i ∧ v = .slice q 16 cp ∧ Sees wr (.slice q 16 cp) (bkn (rkey key) b k) ∧ Below w.heap.size w wr) (fun _ vi _ _ _ => (intOf vi).toNat)
  case atStart => exact ⟨0, 14, x, c, by omega, rfl, rfl, HS.out, Below.refl _ _⟩
  case round =>
    clear HS
    obtain ⟨k, i, q, cp, hi, rfl, rfl, hs, hb⟩ := hrel
    by_cases hlt : 1 ≤ i
    · have SB := Lib.hid (TB.out k)
      have SN : Hid (bkn (rkey key) b (k + 1) = sb kxs (mv 3 (cond (decide (k = 0)) (jn (bkn (rkey key) b k) (rkey key (14 - k))) (mx 14 11 13 9 (jn (bkn (rkey key) b k) (rkey key (14 - k))))))) := rfl
      rw [show 14 - k = i by omega] at SN
      have K1 := Lib.hid (KB.out i)
      have HS := Lib.hid hs
      have HB := Lib.hid hb
      generalize bkn (rkey key) b k = S at *
      have JB : Hid (Bts 16 (jn S (rkey key i))) := jn_bts SB.out K1.out
      have MX : Hid (Bts 16 (mx 14 11 13 9 (jn S (rkey key i)))) := mx_bts _ _ _ _ JB.out
      have RJ : Hid (∀ W, RC W g key → Calls Try.prog 51 #[.pointer (some ⟨g, 0, none⟩), .int .i64 i] W (SP W (rkey key i))) := fun W h => spRound i (by omega) HK.out h
      have hi1 : (1 : Int) ≤ (i : Int) := by omega
      have hi14 : (i : Int) ≤ 14 := by omega
      have HI := Lib.hid hi
      clear hs hb
      go_wp2_with fail
      refine (RJ.out _ (HR.out.below HB.out)).mono ?_
      rintro e w3 ⟨x3, c3, rfl, hs3, hb3⟩
      have S3 := Lib.hid hs3
      have SS3 := Lib.hid (HS.out.below hb3)
      have B3 := Lib.hid (HB.out.trans (hb3.mono HB.out.size))
      clear hs3 hb3 HS HB
      go_wp2_with fail
      refine (spXor SB.out K1.out SS3.out S3.out).mono ?_
      rintro e w4 ⟨x4, c4, rfl, hs4, hb4⟩
      have S4 := Lib.hid hs4
      have B4 := Lib.hid (B3.out.trans (hb4.mono B3.out.size))
      clear hs4 hb4 S3 SS3 B3
      generalize jn S (rkey key i) = J at *
      by_cases hl : k = 0
      · have hq : ¬ (i : Int) < 14 := by omega
        have SN2 : Hid (bkn (rkey key) b (k + 1) = sb kxs (mv 3 J)) := by show _ = _; rw [SN.out, hl]; rfl
        clear hl hi SN hlt
        go_wp2_with fail
        refine (spRows JB.out S4.out).mono ?_
        rintro e v1 ⟨y1, d1, rfl, hs1, hb1⟩
        have V1 := Lib.hid hs1
        have D1 := Lib.hid (B4.out.trans (hb1.mono B4.out.size))
        clear hs1 hb1 S4 B4
        go_wp2_with fail
        refine (spRows (mv_bts 1 JB.out) V1.out).mono ?_
        rintro e v2 ⟨y2, d2, rfl, hs2, hb2⟩
        have V2 := Lib.hid hs2
        have D2 := Lib.hid (D1.out.trans (hb2.mono D1.out.size))
        clear hs2 hb2 V1 D1
        go_wp2_with fail
        refine (spRows (mv_bts 1 (mv_bts 1 JB.out)) V2.out).mono ?_
        rintro e v3 ⟨y3, d3, rfl, hs3, hb3⟩
        rw [mv_111] at hs3
        have D3 := Lib.hid (D2.out.trans (hb3.mono D2.out.size))
        have XX : Hid (Bts 16 (mv 3 J)) := mv_bts 3 JB.out
        obtain ⟨bb, oo, rfl, _, _, _, hcc⟩ := hs3.at16 (by rw [XX.out.1]; omega)
        have CC : Hid (∀ i, i < 16 → v3.cell? ⟨bb, oo + i, none⟩ = some (.int .u8 (at_ (mv 3 J) i : Nat))) := fun i hi => hcc i (by rw [XX.out.1]; exact hi)
        have LBB : Hid (bb < v3.heap.size) := World.block_lt_of_cell? v3 _ (CC.out 0 (by omega))
        obtain ⟨bw, cw, y, cy, z, cz, hg, _, _, hz⟩ := HR.out.below D3.out
        have CG : Hid (v3.cell? ⟨g, 2, none⟩ = some (.slice z 256 cz)) := cell_of_row _ _ 2 _ _ _ hg
        have LG := Lib.hid (blk_lt hg)
        obtain ⟨bz, oz, rfl, _, _, _, hzc⟩ := hz.at16 (by rw [kxs_len]; omega)
        have CZ : Hid (∀ i, i < 256 → v3.cell? ⟨bz, oz + i, none⟩ = some (.int .u8 (at_ kxs i : Nat))) := fun i hi => hzc i (by rw [kxs_len]; exact hi)
        have LBZ : Hid (bz < v3.heap.size) := World.block_lt_of_cell? v3 _ (CZ.out 0 (by omega))
        generalize mv 3 J = M at *
        rename_i p1 p2 p3 p4 p5 p6 p7 p8
        clear p1 p2 p3 p4 p5 p6 p7 p8
        clear hs3 hb3 hcc hzc hg hz V2 D2
        go_wp2_with fail
        go_loopw [6, 7] (fun v vi wr => ∃ (n : Nat) (q : Option Addr) (c : Nat), n ≤ 16 ∧ vi = .int .i64 n ∧ v = .slice q n c ∧ Own wr v3.heap.size (.slice q n c) (tab n (fun i => at_ kxs (at_ M i))) ∧ Below v3.heap.size v3 wr) (fun _ vi _ => 16 - (intOf vi).toNat)
        case atStart => exact ⟨0, none, 0, by omega, rfl, rfl, own_nil _ _, Below.refl _ _⟩
        case round =>
          obtain ⟨n, q, c, hn, rfl, rfl, ho, hb⟩ := hrel
          by_cases hln : n < 16
          · have hn16 : (n : Int) < 16 := by omega
            have xl := XX.out.at_lt n
            have CX := Lib.hid (CC.out n hln)
            have CY := Lib.hid (CZ.out _ xl)
            obtain ⟨q1, c1, w1, hrun, ho1, hb1⟩ := ho.drew.push (x := at_ kxs (at_ M n)) (kxs_bts.at_lt _) (by rw [tab_len]; omega) hb.size
            rw [← tab_succ n (fun i => at_ kxs (at_ M i)), tab_len] at ho1
            rw [tab_len] at hrun
            have HO1 := Lib.hid ho1
            have HR := Lib.hid hrun
            have HBB := Lib.hid hb
            have HB2 := Lib.hid (hb.drew.trans hb1)
            clear ho1 hrun hb1 ho hb
            generalize at_ kxs (at_ M n) = zz at *
            generalize at_ M n = ee at *
            have xl' : (ee : Int) < 256 := by omega
            go_wp2_with fail
            refine wp_region_held_drew (S := fun W => Below v3.heap.size v3 W) (by kernel_rfl) HBB.out.drew (fun hS => ?_)
            refine' wpAnyH_take (i := 0) ?h1x0p ?hsx0p ?hfx0p ?hrx0p ?hQx0p (Or.inl ⟨?hwx0p, ?hyx0p⟩) hS ?restx0p
            case h1x0p => (simp only [List.getElem?_toArray, List.getElem?_cons_zero]; rfl)
            case hsx0p => kernel_rfl
            case hfx0p => kernel_rfl
            case hrx0p => kernel_rfl
            case hQx0p => exact fun _ _ _ h => h
            case hwx0p => rfl
            case hyx0p =>
              intro W hW
              go_simp
              try with_reducible rfl
            simp only [Act.put, List.setIfInBounds_toArray, List.set_cons_succ, List.set_cons_zero]
            refine' wpAnyH_take (i := 1) ?h1x1p ?hsx1p ?hfx1p ?hrx1p ?hQx1p (Or.inl ⟨?hwx1p, ?hyx1p⟩) hS ?restx1p
            case h1x1p => (simp only [List.getElem?_toArray, List.getElem?_cons_succ, List.getElem?_cons_zero]; rfl)
            case hsx1p => kernel_rfl
            case hfx1p => kernel_rfl
            case hrx1p => kernel_rfl
            case hQx1p => exact fun _ _ _ h => h
            case hwx1p => rfl
            case hyx1p =>
              intro W hW
              go_simp
              try with_reducible rfl
            simp only [Act.put, List.setIfInBounds_toArray, List.set_cons_succ, List.set_cons_zero]
            refine' wpAnyH_take (i := 2) ?h1x2p ?hsx2p ?hfx2p ?hrx2p ?hQx2p (Or.inl ⟨?hwx2p, ?hyx2p⟩) hS ?restx2p
            case h1x2p => (simp only [List.getElem?_toArray, List.getElem?_cons_succ, List.getElem?_cons_zero]; rfl)
            case hsx2p => kernel_rfl
            case hfx2p => kernel_rfl
            case hrx2p => kernel_rfl
            case hQx2p => exact fun _ _ _ h => h
            case hwx2p => rfl
            case hyx2p =>
              intro W hW
              go_simp
              try with_reducible rfl
            simp only [Act.put, List.setIfInBounds_toArray, List.set_cons_succ, List.set_cons_zero]
            refine' wpAnyH_take (i := 3) ?h1x3p ?hsx3p ?hfx3p ?hrx3p ?hQx3p (Or.inl ⟨?hwx3p, ?hyx3p⟩) hS ?restx3p
            case h1x3p => (simp only [List.getElem?_toArray, List.getElem?_cons_succ, List.getElem?_cons_zero]; rfl)
            case hsx3p => kernel_rfl
            case hfx3p => kernel_rfl
            case hrx3p => kernel_rfl
            case hQx3p => exact fun _ _ _ h => h
            case hwx3p => rfl
            case hyx3p =>
              intro W hW
              go_simp
              try with_reducible rfl
            simp only [Act.put, List.setIfInBounds_toArray, List.set_cons_succ, List.set_cons_zero]
            refine' wpAnyH_take (i := 4) ?h1x4p ?hsx4p ?hfx4p ?hrx4p ?hQx4p (Or.inl ⟨?hwx4p, ?hyx4p⟩) hS ?restx4p
            case h1x4p => (simp only [List.getElem?_toArray, List.getElem?_cons_succ, List.getElem?_cons_zero]; rfl)
            case hsx4p => kernel_rfl
            case hfx4p => kernel_rfl
            case hrx4p => kernel_rfl
            case hQx4p => exact fun _ _ _ h => h
            case hwx4p => rfl
            case hyx4p =>
              intro W hW
              have dd := (hW.cell (p := ⟨g, 2, none⟩) LG.out).trans CG.out
              go_simp
              try with_reducible rfl
            simp only [Act.put, List.setIfInBounds_toArray, List.set_cons_succ, List.set_cons_zero]
            refine' wpAnyH_take (i := 5) ?h1x5p ?hsx5p ?hfx5p ?hrx5p ?hQx5p (Or.inl ⟨?hwx5p, ?hyx5p⟩) hS ?restx5p
            case h1x5p => (simp only [List.getElem?_toArray, List.getElem?_cons_succ, List.getElem?_cons_zero]; rfl)
            case hsx5p => kernel_rfl
            case hfx5p => kernel_rfl
            case hrx5p => kernel_rfl
            case hQx5p => exact fun _ _ _ h => h
            case hwx5p => rfl
            case hyx5p =>
              intro W hW
              go_simp
              try with_reducible rfl
            simp only [Act.put, List.setIfInBounds_toArray, List.set_cons_succ, List.set_cons_zero]
            refine' wpAnyH_take (i := 6) ?h1x6p ?hsx6p ?hfx6p ?hrx6p ?hQx6p (Or.inl ⟨?hwx6p, ?hyx6p⟩) hS ?restx6p
            case h1x6p => (simp only [List.getElem?_toArray, List.getElem?_cons_succ, List.getElem?_cons_zero]; rfl)
            case hsx6p => kernel_rfl
            case hfx6p => kernel_rfl
            case hrx6p => kernel_rfl
            case hQx6p => exact fun _ _ _ h => h
            case hwx6p => rfl
            case hyx6p =>
              intro W hW
              go_simp
              try with_reducible rfl
            simp only [Act.put, List.setIfInBounds_toArray, List.set_cons_succ, List.set_cons_zero]
            refine' wpAnyH_take (i := 7) ?h1x7p ?hsx7p ?hfx7p ?hrx7p ?hQx7p (Or.inl ⟨?hwx7p, ?hyx7p⟩) hS ?restx7p
            case h1x7p => (simp only [List.getElem?_toArray, List.getElem?_cons_succ, List.getElem?_cons_zero]; rfl)
            case hsx7p => kernel_rfl
            case hfx7p => kernel_rfl
            case hrx7p => kernel_rfl
            case hQx7p => exact fun _ _ _ h => h
            case hwx7p => rfl
            case hyx7p =>
              intro W hW
              go_simp
              try with_reducible rfl
            simp only [Act.put, List.setIfInBounds_toArray, List.set_cons_succ, List.set_cons_zero]
            refine' wpAnyH_take (i := 8) ?h1x8p ?hsx8p ?hfx8p ?hrx8p ?hQx8p (Or.inl ⟨?hwx8p, ?hyx8p⟩) hS ?restx8p
            case h1x8p => (simp only [List.getElem?_toArray, List.getElem?_cons_succ, List.getElem?_cons_zero]; rfl)
            case hsx8p => kernel_rfl
            case hfx8p => kernel_rfl
            case hrx8p => kernel_rfl
            case hQx8p => exact fun _ _ _ h => h
            case hwx8p => rfl
            case hyx8p =>
              intro W hW
              have dd := (hW.cell (p := ⟨bb, oo + n, none⟩) LBB.out).trans CX.out
              go_simp
              try with_reducible rfl
            simp only [Act.put, List.setIfInBounds_toArray, List.set_cons_succ, List.set_cons_zero]
            refine' wpAnyH_take (i := 9) ?h1x9p ?hsx9p ?hfx9p ?hrx9p ?hQx9p (Or.inl ⟨?hwx9p, ?hyx9p⟩) hS ?restx9p
            case h1x9p => (simp only [List.getElem?_toArray, List.getElem?_cons_succ, List.getElem?_cons_zero]; rfl)
            case hsx9p => kernel_rfl
            case hfx9p => kernel_rfl
            case hrx9p => kernel_rfl
            case hQx9p => exact fun _ _ _ h => h
            case hwx9p => rfl
            case hyx9p =>
              intro W hW
              go_simp
              try with_reducible rfl
            simp only [Act.put, List.setIfInBounds_toArray, List.set_cons_succ, List.set_cons_zero]
            refine' wpAnyH_take (i := 10) ?h1x10p ?hsx10p ?hfx10p ?hrx10p ?hQx10p (Or.inl ⟨?hwx10p, ?hyx10p⟩) hS ?restx10p
            case h1x10p => (simp only [List.getElem?_toArray, List.getElem?_cons_succ, List.getElem?_cons_zero]; rfl)
            case hsx10p => kernel_rfl
            case hfx10p => kernel_rfl
            case hrx10p => kernel_rfl
            case hQx10p => exact fun _ _ _ h => h
            case hwx10p => rfl
            case hyx10p =>
              intro W hW
              have dd := (hW.cell (p := ⟨bz, oz + ee, none⟩) LBZ.out).trans CY.out
              go_simp
              try with_reducible rfl
            simp only [Act.put, List.setIfInBounds_toArray, List.set_cons_succ, List.set_cons_zero]
            refine wpAnyH_ready (rs := [11]) (by kernel_rfl) (by simp) ?_
            refine' AllReadyH.cons ?hoc11p (fun K hK => ?stc11p) AllReadyH.nil
            case hoc11p => (simp only [List.getElem?_toArray, List.getElem?_cons_succ, List.getElem?_cons_zero]; rfl)
            go_simp
            refine hK.out _ _ (hS.alloc hS.size _) (fun hHeld => ?_)
            clear hK K
            try simp only [Act.put, List.setIfInBounds_toArray, List.set_cons_succ, List.set_cons_zero]
            clear hS
            have hS := hHeld
            clear hHeld
            refine wpAnyH_ready (rs := [12]) (by kernel_rfl) (by simp) ?_
            refine' AllReadyH.cons ?hoc12p (fun K hK => ?stc12p) AllReadyH.nil
            case hoc12p => (simp only [List.getElem?_toArray, List.getElem?_cons_succ, List.getElem?_cons_zero]; rfl)
            refine step_app rfl _ _ rfl rfl rfl rfl HR.out ?_
            refine hK.out _ _ HB2.out (fun hHeld => ?_)
            clear hK K
            try simp only [Act.put, List.setIfInBounds_toArray, List.set_cons_succ, List.set_cons_zero]
            clear hS
            have hS := hHeld
            clear hHeld
            refine' wpAnyH_take (i := 13) ?h1x13p ?hsx13p ?hfx13p ?hrx13p ?hQx13p (Or.inl ⟨?hwx13p, ?hyx13p⟩) hS ?restx13p
            case h1x13p => (simp only [List.getElem?_toArray, List.getElem?_cons_succ, List.getElem?_cons_zero]; rfl)
            case hsx13p => kernel_rfl
            case hfx13p => kernel_rfl
            case hrx13p => kernel_rfl
            case hQx13p => exact fun _ _ _ h => h
            case hwx13p => rfl
            case hyx13p =>
              intro W hW
              go_simp
              try with_reducible rfl
            simp only [Act.put, List.setIfInBounds_toArray, List.set_cons_succ, List.set_cons_zero]
            refine wpAnyH_done (by kernel_rfl) ?_ _
            go_wp2_with fail
            go_roundw
            case rel => exact ⟨n + 1, q1, c1, by omega, by go_num, rfl, HO1.out, HB2.out⟩
            case measure => simp [intOf]; omega
          · obtain rfl : n = 16 := by omega
            have HO : Hid (Sees wr (.slice q 16 c) (bkn (rkey key) b (k + 1))) := by rw [SN2.out]; exact ho.sees
            have HB := Lib.hid (D3.out.trans (hb.mono D3.out.size))
            clear ho hb hn hln
            go_wp2_with fail
            go_roundw
            case rel =>
              have hi := HI.out
              exact ⟨k + 1, i - 1, q, c, by omega, by congr 1; omega, rfl, HO.out, HB.out⟩
            case measure => simp [intOf]; omega
      · have hq : (i : Int) < 14 := by omega
        have SN2 : Hid (bkn (rkey key) b (k + 1) = sb kxs (mv 3 (mx 14 11 13 9 J))) := by
          show _ = _
          rw [SN.out, show decide (k = 0) = false by simpa using hl]; rfl
        clear hl hi SN hlt
        go_wp2_with fail
        have hn := heap_alloc_new w4 (.cells #[.int .u8 14, .int .u8 11, .int .u8 13, .int .u8 9] 5)
        have b5 : Below w4.heap.size w4 (w4.alloc (.cells #[.int .u8 14, .int .u8 11, .int .u8 13, .int .u8 9] 5)) := (Below.refl _ _).alloc (Nat.le_refl _) _
        have f5 : Sees (w4.alloc (.cells #[.int .u8 14, .int .u8 11, .int .u8 13, .int .u8 9] 5)) (.slice (some ⟨w4.heap.size, 0, none⟩) 4 4) [14, 11, 13, 9] := sees_row _ _ [14, 11, 13, 9] (fun z hz => by simp at hz; omega) (by simp [maxLen]) hn 4 rfl
        have S4b := Lib.hid (S4.out.below b5)
        have B4b := Lib.hid (B4.out.trans (b5.mono B4.out.size))
        refine (spCols 14 11 13 9 (by omega) (by omega) (by omega) (by omega) JB.out S4b.out f5).mono ?_
        rintro e w5 ⟨x5, c5, rfl, hs5, hb5⟩
        have S5 := Lib.hid hs5
        have B5 := Lib.hid (B4b.out.trans (hb5.mono B4b.out.size))
        clear hs5 hb5 S4 B4 S4b B4b f5 b5 hn
        generalize mx 14 11 13 9 J = Y at *
        go_wp2_with fail
        refine (spRows MX.out S5.out).mono ?_
        rintro e v1 ⟨y1, d1, rfl, hs1, hb1⟩
        have V1 := Lib.hid hs1
        have D1 := Lib.hid (B5.out.trans (hb1.mono B5.out.size))
        clear hs1 hb1 S5 B5
        go_wp2_with fail
        refine (spRows (mv_bts 1 MX.out) V1.out).mono ?_
        rintro e v2 ⟨y2, d2, rfl, hs2, hb2⟩
        have V2 := Lib.hid hs2
        have D2 := Lib.hid (D1.out.trans (hb2.mono D1.out.size))
        clear hs2 hb2 V1 D1
        go_wp2_with fail
        refine (spRows (mv_bts 1 (mv_bts 1 MX.out)) V2.out).mono ?_
        rintro e v3 ⟨y3, d3, rfl, hs3, hb3⟩
        rw [mv_111] at hs3
        have D3 := Lib.hid (D2.out.trans (hb3.mono D2.out.size))
        have XX : Hid (Bts 16 (mv 3 Y)) := mv_bts 3 MX.out
        obtain ⟨bb, oo, rfl, _, _, _, hcc⟩ := hs3.at16 (by rw [XX.out.1]; omega)
        have CC : Hid (∀ i, i < 16 → v3.cell? ⟨bb, oo + i, none⟩ = some (.int .u8 (at_ (mv 3 Y) i : Nat))) := fun i hi => hcc i (by rw [XX.out.1]; exact hi)
        have LBB : Hid (bb < v3.heap.size) := World.block_lt_of_cell? v3 _ (CC.out 0 (by omega))
        obtain ⟨bw, cw, y, cy, z, cz, hg, _, _, hz⟩ := HR.out.below D3.out
        have CG : Hid (v3.cell? ⟨g, 2, none⟩ = some (.slice z 256 cz)) := cell_of_row _ _ 2 _ _ _ hg
        have LG := Lib.hid (blk_lt hg)
        obtain ⟨bz, oz, rfl, _, _, _, hzc⟩ := hz.at16 (by rw [kxs_len]; omega)
        have CZ : Hid (∀ i, i < 256 → v3.cell? ⟨bz, oz + i, none⟩ = some (.int .u8 (at_ kxs i : Nat))) := fun i hi => hzc i (by rw [kxs_len]; exact hi)
        have LBZ : Hid (bz < v3.heap.size) := World.block_lt_of_cell? v3 _ (CZ.out 0 (by omega))
        generalize mv 3 Y = M at *
        rename_i p1 p2 p3 p4 p5 p6 p7 p8
        clear p1 p2 p3 p4 p5 p6 p7 p8
        clear hs3 hb3 hcc hzc hg hz V2 D2
        go_wp2_with fail
        go_loopw [6, 7] (fun v vi wr => ∃ (n : Nat) (q : Option Addr) (c : Nat), n ≤ 16 ∧ vi = .int .i64 n ∧ v = .slice q n c ∧ Own wr v3.heap.size (.slice q n c) (tab n (fun i => at_ kxs (at_ M i))) ∧ Below v3.heap.size v3 wr) (fun _ vi _ => 16 - (intOf vi).toNat)
        case atStart => exact ⟨0, none, 0, by omega, rfl, rfl, own_nil _ _, Below.refl _ _⟩
        case round =>
          obtain ⟨n, q, c, hn, rfl, rfl, ho, hb⟩ := hrel
          by_cases hln : n < 16
          · have hn16 : (n : Int) < 16 := by omega
            have xl := XX.out.at_lt n
            have CX := Lib.hid (CC.out n hln)
            have CY := Lib.hid (CZ.out _ xl)
            obtain ⟨q1, c1, w1, hrun, ho1, hb1⟩ := ho.drew.push (x := at_ kxs (at_ M n)) (kxs_bts.at_lt _) (by rw [tab_len]; omega) hb.size
            rw [← tab_succ n (fun i => at_ kxs (at_ M i)), tab_len] at ho1
            rw [tab_len] at hrun
            have HO1 := Lib.hid ho1
            have HR := Lib.hid hrun
            have HBB := Lib.hid hb
            have HB2 := Lib.hid (hb.drew.trans hb1)
            clear ho1 hrun hb1 ho hb
            generalize at_ kxs (at_ M n) = zz at *
            generalize at_ M n = ee at *
            have xl' : (ee : Int) < 256 := by omega
            go_wp2_with fail
            refine wp_region_held_drew (S := fun W => Below v3.heap.size v3 W) (by kernel_rfl) HBB.out.drew (fun hS => ?_)
            refine' wpAnyH_take (i := 0) ?h1x0q ?hsx0q ?hfx0q ?hrx0q ?hQx0q (Or.inl ⟨?hwx0q, ?hyx0q⟩) hS ?restx0q
            case h1x0q => (simp only [List.getElem?_toArray, List.getElem?_cons_zero]; rfl)
            case hsx0q => kernel_rfl
            case hfx0q => kernel_rfl
            case hrx0q => kernel_rfl
            case hQx0q => exact fun _ _ _ h => h
            case hwx0q => rfl
            case hyx0q =>
              intro W hW
              go_simp
              try with_reducible rfl
            simp only [Act.put, List.setIfInBounds_toArray, List.set_cons_succ, List.set_cons_zero]
            refine' wpAnyH_take (i := 1) ?h1x1q ?hsx1q ?hfx1q ?hrx1q ?hQx1q (Or.inl ⟨?hwx1q, ?hyx1q⟩) hS ?restx1q
            case h1x1q => (simp only [List.getElem?_toArray, List.getElem?_cons_succ, List.getElem?_cons_zero]; rfl)
            case hsx1q => kernel_rfl
            case hfx1q => kernel_rfl
            case hrx1q => kernel_rfl
            case hQx1q => exact fun _ _ _ h => h
            case hwx1q => rfl
            case hyx1q =>
              intro W hW
              go_simp
              try with_reducible rfl
            simp only [Act.put, List.setIfInBounds_toArray, List.set_cons_succ, List.set_cons_zero]
            refine' wpAnyH_take (i := 2) ?h1x2q ?hsx2q ?hfx2q ?hrx2q ?hQx2q (Or.inl ⟨?hwx2q, ?hyx2q⟩) hS ?restx2q
            case h1x2q => (simp only [List.getElem?_toArray, List.getElem?_cons_succ, List.getElem?_cons_zero]; rfl)
            case hsx2q => kernel_rfl
            case hfx2q => kernel_rfl
            case hrx2q => kernel_rfl
            case hQx2q => exact fun _ _ _ h => h
            case hwx2q => rfl
            case hyx2q =>
              intro W hW
              go_simp
              try with_reducible rfl
            simp only [Act.put, List.setIfInBounds_toArray, List.set_cons_succ, List.set_cons_zero]
            refine' wpAnyH_take (i := 3) ?h1x3q ?hsx3q ?hfx3q ?hrx3q ?hQx3q (Or.inl ⟨?hwx3q, ?hyx3q⟩) hS ?restx3q
            case h1x3q => (simp only [List.getElem?_toArray, List.getElem?_cons_succ, List.getElem?_cons_zero]; rfl)
            case hsx3q => kernel_rfl
            case hfx3q => kernel_rfl
            case hrx3q => kernel_rfl
            case hQx3q => exact fun _ _ _ h => h
            case hwx3q => rfl
            case hyx3q =>
              intro W hW
              go_simp
              try with_reducible rfl
            simp only [Act.put, List.setIfInBounds_toArray, List.set_cons_succ, List.set_cons_zero]
            refine' wpAnyH_take (i := 4) ?h1x4q ?hsx4q ?hfx4q ?hrx4q ?hQx4q (Or.inl ⟨?hwx4q, ?hyx4q⟩) hS ?restx4q
            case h1x4q => (simp only [List.getElem?_toArray, List.getElem?_cons_succ, List.getElem?_cons_zero]; rfl)
            case hsx4q => kernel_rfl
            case hfx4q => kernel_rfl
            case hrx4q => kernel_rfl
            case hQx4q => exact fun _ _ _ h => h
            case hwx4q => rfl
            case hyx4q =>
              intro W hW
              have dd := (hW.cell (p := ⟨g, 2, none⟩) LG.out).trans CG.out
              go_simp
              try with_reducible rfl
            simp only [Act.put, List.setIfInBounds_toArray, List.set_cons_succ, List.set_cons_zero]
            refine' wpAnyH_take (i := 5) ?h1x5q ?hsx5q ?hfx5q ?hrx5q ?hQx5q (Or.inl ⟨?hwx5q, ?hyx5q⟩) hS ?restx5q
            case h1x5q => (simp only [List.getElem?_toArray, List.getElem?_cons_succ, List.getElem?_cons_zero]; rfl)
            case hsx5q => kernel_rfl
            case hfx5q => kernel_rfl
            case hrx5q => kernel_rfl
            case hQx5q => exact fun _ _ _ h => h
            case hwx5q => rfl
            case hyx5q =>
              intro W hW
              go_simp
              try with_reducible rfl
            simp only [Act.put, List.setIfInBounds_toArray, List.set_cons_succ, List.set_cons_zero]
            refine' wpAnyH_take (i := 6) ?h1x6q ?hsx6q ?hfx6q ?hrx6q ?hQx6q (Or.inl ⟨?hwx6q, ?hyx6q⟩) hS ?restx6q
            case h1x6q => (simp only [List.getElem?_toArray, List.getElem?_cons_succ, List.getElem?_cons_zero]; rfl)
            case hsx6q => kernel_rfl
            case hfx6q => kernel_rfl
            case hrx6q => kernel_rfl
            case hQx6q => exact fun _ _ _ h => h
            case hwx6q => rfl
            case hyx6q =>
              intro W hW
              go_simp
              try with_reducible rfl
            simp only [Act.put, List.setIfInBounds_toArray, List.set_cons_succ, List.set_cons_zero]
            refine' wpAnyH_take (i := 7) ?h1x7q ?hsx7q ?hfx7q ?hrx7q ?hQx7q (Or.inl ⟨?hwx7q, ?hyx7q⟩) hS ?restx7q
            case h1x7q => (simp only [List.getElem?_toArray, List.getElem?_cons_succ, List.getElem?_cons_zero]; rfl)
            case hsx7q => kernel_rfl
            case hfx7q => kernel_rfl
            case hrx7q => kernel_rfl
            case hQx7q => exact fun _ _ _ h => h
            case hwx7q => rfl
            case hyx7q =>
              intro W hW
              go_simp
              try with_reducible rfl
            simp only [Act.put, List.setIfInBounds_toArray, List.set_cons_succ, List.set_cons_zero]
            refine' wpAnyH_take (i := 8) ?h1x8q ?hsx8q ?hfx8q ?hrx8q ?hQx8q (Or.inl ⟨?hwx8q, ?hyx8q⟩) hS ?restx8q
            case h1x8q => (simp only [List.getElem?_toArray, List.getElem?_cons_succ, List.getElem?_cons_zero]; rfl)
            case hsx8q => kernel_rfl
            case hfx8q => kernel_rfl
            case hrx8q => kernel_rfl
            case hQx8q => exact fun _ _ _ h => h
            case hwx8q => rfl
            case hyx8q =>
              intro W hW
              have dd := (hW.cell (p := ⟨bb, oo + n, none⟩) LBB.out).trans CX.out
              go_simp
              try with_reducible rfl
            simp only [Act.put, List.setIfInBounds_toArray, List.set_cons_succ, List.set_cons_zero]
            refine' wpAnyH_take (i := 9) ?h1x9q ?hsx9q ?hfx9q ?hrx9q ?hQx9q (Or.inl ⟨?hwx9q, ?hyx9q⟩) hS ?restx9q
            case h1x9q => (simp only [List.getElem?_toArray, List.getElem?_cons_succ, List.getElem?_cons_zero]; rfl)
            case hsx9q => kernel_rfl
            case hfx9q => kernel_rfl
            case hrx9q => kernel_rfl
            case hQx9q => exact fun _ _ _ h => h
            case hwx9q => rfl
            case hyx9q =>
              intro W hW
              go_simp
              try with_reducible rfl
            simp only [Act.put, List.setIfInBounds_toArray, List.set_cons_succ, List.set_cons_zero]
            refine' wpAnyH_take (i := 10) ?h1x10q ?hsx10q ?hfx10q ?hrx10q ?hQx10q (Or.inl ⟨?hwx10q, ?hyx10q⟩) hS ?restx10q
            case h1x10q => (simp only [List.getElem?_toArray, List.getElem?_cons_succ, List.getElem?_cons_zero]; rfl)
            case hsx10q => kernel_rfl
            case hfx10q => kernel_rfl
            case hrx10q => kernel_rfl
            case hQx10q => exact fun _ _ _ h => h
            case hwx10q => rfl
            case hyx10q =>
              intro W hW
              have dd := (hW.cell (p := ⟨bz, oz + ee, none⟩) LBZ.out).trans CY.out
              go_simp
              try with_reducible rfl
            simp only [Act.put, List.setIfInBounds_toArray, List.set_cons_succ, List.set_cons_zero]
            refine wpAnyH_ready (rs := [11]) (by kernel_rfl) (by simp) ?_
            refine' AllReadyH.cons ?hoc11q (fun K hK => ?stc11q) AllReadyH.nil
            case hoc11q => (simp only [List.getElem?_toArray, List.getElem?_cons_succ, List.getElem?_cons_zero]; rfl)
            go_simp
            refine hK.out _ _ (hS.alloc hS.size _) (fun hHeld => ?_)
            clear hK K
            try simp only [Act.put, List.setIfInBounds_toArray, List.set_cons_succ, List.set_cons_zero]
            clear hS
            have hS := hHeld
            clear hHeld
            refine wpAnyH_ready (rs := [12]) (by kernel_rfl) (by simp) ?_
            refine' AllReadyH.cons ?hoc12q (fun K hK => ?stc12q) AllReadyH.nil
            case hoc12q => (simp only [List.getElem?_toArray, List.getElem?_cons_succ, List.getElem?_cons_zero]; rfl)
            refine step_app rfl _ _ rfl rfl rfl rfl HR.out ?_
            refine hK.out _ _ HB2.out (fun hHeld => ?_)
            clear hK K
            try simp only [Act.put, List.setIfInBounds_toArray, List.set_cons_succ, List.set_cons_zero]
            clear hS
            have hS := hHeld
            clear hHeld
            refine' wpAnyH_take (i := 13) ?h1x13q ?hsx13q ?hfx13q ?hrx13q ?hQx13q (Or.inl ⟨?hwx13q, ?hyx13q⟩) hS ?restx13q
            case h1x13q => (simp only [List.getElem?_toArray, List.getElem?_cons_succ, List.getElem?_cons_zero]; rfl)
            case hsx13q => kernel_rfl
            case hfx13q => kernel_rfl
            case hrx13q => kernel_rfl
            case hQx13q => exact fun _ _ _ h => h
            case hwx13q => rfl
            case hyx13q =>
              intro W hW
              go_simp
              try with_reducible rfl
            simp only [Act.put, List.setIfInBounds_toArray, List.set_cons_succ, List.set_cons_zero]
            refine wpAnyH_done (by kernel_rfl) ?_ _
            go_wp2_with fail
            go_roundw
            case rel => exact ⟨n + 1, q1, c1, by omega, by go_num, rfl, HO1.out, HB2.out⟩
            case measure => simp [intOf]; omega
          · obtain rfl : n = 16 := by omega
            have HO : Hid (Sees wr (.slice q 16 c) (bkn (rkey key) b (k + 1))) := by rw [SN2.out]; exact ho.sees
            have HB := Lib.hid (D3.out.trans (hb.mono D3.out.size))
            clear ho hb hn hln
            go_wp2_with fail
            go_roundw
            case rel =>
              have hi := HI.out
              exact ⟨k + 1, i - 1, q, c, by omega, by congr 1; omega, rfl, HO.out, HB.out⟩
            case measure => simp [intOf]; omega
    · obtain rfl : i = 0 := by omega
      obtain rfl : k = 14 := by omega
      have SB := Lib.hid (TB.out 14)
      have K0 := Lib.hid (KB.out 0)
      have BN : Hid (back (rkey key) b = jn (bkn (rkey key) b 14) (rkey key 0)) := rfl
      have HS := Lib.hid hs
      have HB := Lib.hid hb
      clear hs hb
      go_wp2_with fail
      refine (R0.out _ (HR.out.below HB.out)).mono ?_
      rintro e w3 ⟨x3, c3, rfl, hs3, hb3⟩
      have S3 := Lib.hid hs3
      have SS3 := Lib.hid (HS.out.below hb3)
      have B3 := Lib.hid (HB.out.trans (hb3.mono HB.out.size))
      clear hs3 hb3 HS HB
      go_wp2_with fail
      refine (spXor SB.out K0.out SS3.out S3.out).mono ?_
      rintro e w4 ⟨x4, c4, rfl, hs4, hb4⟩
      have S4 := Lib.hid hs4
      have B4 := Lib.hid (B3.out.trans (hb4.mono B3.out.size))
      clear hs4 hb4 S3 SS3 B3
      go_wp2_with fail
      go_ret
      exact ⟨x4, c4, rfl, by rw [BN.out]; exact S4.out, B4.out⟩
end Go.Proofs.Ytekffhopmicalaa
