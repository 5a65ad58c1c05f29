/-
  Contracts of the document's own functions of package xts: two texts of sixteen bytes joined; a sector. Condition: the numbers are bytes.
-/
import Derived.Test.YtpkeofioobmmoaaDoorAeAesTurns
import Derived.Test.YtpkeofioobmmoaaDoorAeXtsE
namespace Go.Proofs.YtpkeofioobmmoaaDoor.ae
open Go.RowKit
set_option maxRecDepth 100000 in
set_option maxHeartbeats 4000000 in
theorem refXor16 (x : Option Addr) (cap : Nat) (xs : List Nat) (y : Option Addr) (cy : Nat) (ys : List Nat) (w : World) (hL : 16 = xs.length) (hM : 16 = ys.length) (hs : Sees w (.slice x 16 cap) xs) (hy : Sees w (.slice y 16 cy) ys) :
    Calls Tryd.prog 61 #[.slice x 16 cap, .slice y 16 cy] w (OwnP w (jn xs ys)) := by
  have HX := Lib.hid hs.1
  have HY := Lib.hid hy.1
  have HS : Hid (∀ i, i < 16 → ∃ bb oo, x = some ⟨bb, oo, none⟩ ∧ bb < w.heap.size ∧ w.cell? ⟨bb, oo + i, none⟩ = some (.int .u8 (at_ xs i : Nat))) := fun i hi => by
    obtain ⟨bb, oo, h1, _, _, _, h5⟩ := hs.cells (fun e => by rw [e] at hL; simp at hL)
    exact ⟨bb, oo, h1, World.block_lt_of_cell? w _ (h5 i (by omega)), h5 i (by omega)⟩
  have HT : Hid (∀ i, i < 16 → ∃ bb oo, y = some ⟨bb, oo, none⟩ ∧ bb < w.heap.size ∧ w.cell? ⟨bb, oo + i, none⟩ = some (.int .u8 (at_ ys i : Nat))) := fun i hi => by
    obtain ⟨bb, oo, h1, _, _, _, h5⟩ := hy.cells (fun e => by rw [e] at hM; simp at hM)
    exact ⟨bb, oo, h1, World.block_lt_of_cell? w _ (h5 i (by omega)), h5 i (by omega)⟩
  clear hs hy hL hM
  go_enter Tryd.func61, Tryd.ntmps61
  go_wp2_with fail
  go_loopw [5, 6] (fun v vi wr => ∃ (i : Nat) (q : Option Addr) (c : Nat), i ≤ 16 ∧ vi = .int .i64 i ∧ v = .slice q i c ∧ Own wr w.heap.size (.slice q i c) (xorl i xs ys) ∧ Below w.heap.size w wr) (fun _ vi _ => 16 - (intOf vi).toNat)
  case atStart => exact ⟨0, none, 0, by omega, rfl, rfl, own_nil _ _, Below.refl _ _⟩
  case round =>
    obtain ⟨i, q, c, hi, rfl, rfl, ho, hb⟩ := hrel
    by_cases hlt : i < 16
    · obtain ⟨bb, oo, rfl, LBB, hcx⟩ := HS.out i hlt
      obtain ⟨bc, oc, rfl, LBC, hcy⟩ := HT.out i hlt
      have hi16 : (i : Int) < 16 := by omega
      have xl := HX.out.at i
      have yl := HY.out.at i
      have CX := Lib.hid hcx
      have CY := Lib.hid hcy
      have LBBh := Lib.hid LBB
      have LBCh := Lib.hid LBC
      have X8 := Lib.hid (xor8 (at_ xs i) (at_ ys i) xl yl)
      obtain ⟨q1, c1, w1, hr, ho1, hb1⟩ := ho.drew.push (x := Nat.xor (at_ xs i) (at_ ys i)) (xor_lt xl yl) (by rw [xorl, tab_len]; omega) hb.size
      rw [xorl, ← tab_succ i (fun i => Nat.xor (at_ xs i) (at_ ys i)), tab_len] at ho1
      rw [xorl, tab_len] at hr
      have HO1 := Lib.hid ho1
      have HR := Lib.hid hr
      have HBB := Lib.hid hb
      have HB2 := Lib.hid (hb.drew.trans hb1)
      clear ho1 hr hb1 ho hb LBB hcx LBC hcy
      generalize Nat.xor (at_ xs i) (at_ ys i) = z at *
      generalize at_ xs i = e at *
      generalize at_ ys i = f at *
      go_wp2_with fail
      refine wp_region_held_drew (S := fun W => Below w.heap.size w W) (by kernel_rfl) HBB.out.drew (fun hS => ?_)
      refine' wpAnyH_take (i := 0) ?h1x0p ?hsx0p ?hfx0p ?hrx0p ?hQx0p (Or.inl ⟨?hwx0p, ?hyx0p⟩) hS ?restx0p
      case h1x0p => (simp only [List.getElem?_toArray, List.getElem?_cons_zero]; rfl)
      case hsx0p => kernel_rfl
      case hfx0p => kernel_rfl
      case hrx0p => kernel_rfl
      case hQx0p => exact fun _ _ _ h => h
      case hwx0p => rfl
      case hyx0p =>
        intro W hW
        go_simp
        try with_reducible rfl
      simp only [Act.put, List.setIfInBounds_toArray, List.set_cons_succ, List.set_cons_zero]
      refine' wpAnyH_take (i := 1) ?h1x1p ?hsx1p ?hfx1p ?hrx1p ?hQx1p (Or.inl ⟨?hwx1p, ?hyx1p⟩) hS ?restx1p
      case h1x1p => (simp only [List.getElem?_toArray, List.getElem?_cons_succ, List.getElem?_cons_zero]; rfl)
      case hsx1p => kernel_rfl
      case hfx1p => kernel_rfl
      case hrx1p => kernel_rfl
      case hQx1p => exact fun _ _ _ h => h
      case hwx1p => rfl
      case hyx1p =>
        intro W hW
        go_simp
        try with_reducible rfl
      simp only [Act.put, List.setIfInBounds_toArray, List.set_cons_succ, List.set_cons_zero]
      refine' wpAnyH_take (i := 2) ?h1x2p ?hsx2p ?hfx2p ?hrx2p ?hQx2p (Or.inl ⟨?hwx2p, ?hyx2p⟩) hS ?restx2p
      case h1x2p => (simp only [List.getElem?_toArray, List.getElem?_cons_succ, List.getElem?_cons_zero]; rfl)
      case hsx2p => kernel_rfl
      case hfx2p => kernel_rfl
      case hrx2p => kernel_rfl
      case hQx2p => exact fun _ _ _ h => h
      case hwx2p => rfl
      case hyx2p =>
        intro W hW
        go_simp
        try with_reducible rfl
      simp only [Act.put, List.setIfInBounds_toArray, List.set_cons_succ, List.set_cons_zero]
      refine' wpAnyH_take (i := 3) ?h1x3p ?hsx3p ?hfx3p ?hrx3p ?hQx3p (Or.inl ⟨?hwx3p, ?hyx3p⟩) hS ?restx3p
      case h1x3p => (simp only [List.getElem?_toArray, List.getElem?_cons_succ, List.getElem?_cons_zero]; rfl)
      case hsx3p => kernel_rfl
      case hfx3p => kernel_rfl
      case hrx3p => kernel_rfl
      case hQx3p => exact fun _ _ _ h => h
      case hwx3p => rfl
      case hyx3p =>
        intro W hW
        go_simp
        try with_reducible rfl
      simp only [Act.put, List.setIfInBounds_toArray, List.set_cons_succ, List.set_cons_zero]
      refine' wpAnyH_take (i := 4) ?h1x4p ?hsx4p ?hfx4p ?hrx4p ?hQx4p (Or.inl ⟨?hwx4p, ?hyx4p⟩) hS ?restx4p
      case h1x4p => (simp only [List.getElem?_toArray, List.getElem?_cons_succ, List.getElem?_cons_zero]; rfl)
      case hsx4p => kernel_rfl
      case hfx4p => kernel_rfl
      case hrx4p => kernel_rfl
      case hQx4p => exact fun _ _ _ h => h
      case hwx4p => rfl
      case hyx4p =>
        intro W hW
        have dd := (hW.cell (p := ⟨bb, oo + i, none⟩) LBBh.out).trans CX.out
        go_simp
        try with_reducible rfl
      simp only [Act.put, List.setIfInBounds_toArray, List.set_cons_succ, List.set_cons_zero]
      refine' wpAnyH_take (i := 5) ?h1x5p ?hsx5p ?hfx5p ?hrx5p ?hQx5p (Or.inl ⟨?hwx5p, ?hyx5p⟩) hS ?restx5p
      case h1x5p => (simp only [List.getElem?_toArray, List.getElem?_cons_succ, List.getElem?_cons_zero]; rfl)
      case hsx5p => kernel_rfl
      case hfx5p => kernel_rfl
      case hrx5p => kernel_rfl
      case hQx5p => exact fun _ _ _ h => h
      case hwx5p => rfl
      case hyx5p =>
        intro W hW
        go_simp
        try with_reducible rfl
      simp only [Act.put, List.setIfInBounds_toArray, List.set_cons_succ, List.set_cons_zero]
      refine' wpAnyH_take (i := 6) ?h1x6p ?hsx6p ?hfx6p ?hrx6p ?hQx6p (Or.inl ⟨?hwx6p, ?hyx6p⟩) hS ?restx6p
      case h1x6p => (simp only [List.getElem?_toArray, List.getElem?_cons_succ, List.getElem?_cons_zero]; rfl)
      case hsx6p => kernel_rfl
      case hfx6p => kernel_rfl
      case hrx6p => kernel_rfl
      case hQx6p => exact fun _ _ _ h => h
      case hwx6p => rfl
      case hyx6p =>
        intro W hW
        go_simp
        try with_reducible rfl
      simp only [Act.put, List.setIfInBounds_toArray, List.set_cons_succ, List.set_cons_zero]
      refine' wpAnyH_take (i := 7) ?h1x7p ?hsx7p ?hfx7p ?hrx7p ?hQx7p (Or.inl ⟨?hwx7p, ?hyx7p⟩) hS ?restx7p
      case h1x7p => (simp only [List.getElem?_toArray, List.getElem?_cons_succ, List.getElem?_cons_zero]; rfl)
      case hsx7p => kernel_rfl
      case hfx7p => kernel_rfl
      case hrx7p => kernel_rfl
      case hQx7p => exact fun _ _ _ h => h
      case hwx7p => rfl
      case hyx7p =>
        intro W hW
        go_simp
        try with_reducible rfl
      simp only [Act.put, List.setIfInBounds_toArray, List.set_cons_succ, List.set_cons_zero]
      refine' wpAnyH_take (i := 8) ?h1x8p ?hsx8p ?hfx8p ?hrx8p ?hQx8p (Or.inl ⟨?hwx8p, ?hyx8p⟩) hS ?restx8p
      case h1x8p => (simp only [List.getElem?_toArray, List.getElem?_cons_succ, List.getElem?_cons_zero]; rfl)
      case hsx8p => kernel_rfl
      case hfx8p => kernel_rfl
      case hrx8p => kernel_rfl
      case hQx8p => exact fun _ _ _ h => h
      case hwx8p => rfl
      case hyx8p =>
        intro W hW
        have dd := (hW.cell (p := ⟨bc, oc + i, none⟩) LBCh.out).trans CY.out
        go_simp
        try with_reducible rfl
      simp only [Act.put, List.setIfInBounds_toArray, List.set_cons_succ, List.set_cons_zero]
      refine' wpAnyH_take (i := 9) ?h1x9p ?hsx9p ?hfx9p ?hrx9p ?hQx9p (Or.inl ⟨?hwx9p, ?hyx9p⟩) hS ?restx9p
      case h1x9p => (simp only [List.getElem?_toArray, List.getElem?_cons_succ, List.getElem?_cons_zero]; rfl)
      case hsx9p => kernel_rfl
      case hfx9p => kernel_rfl
      case hrx9p => kernel_rfl
      case hQx9p => exact fun _ _ _ h => h
      case hwx9p => rfl
      case hyx9p =>
        intro W hW
        have dd := X8.out
        go_simp
        try with_reducible rfl
      simp only [Act.put, List.setIfInBounds_toArray, List.set_cons_succ, List.set_cons_zero]
      refine wpAnyH_ready (rs := [10]) (by kernel_rfl) (by simp) ?_
      refine' AllReadyH.cons ?hoc10p (fun K hK => ?stc10p) AllReadyH.nil
      case hoc10p => (simp only [List.getElem?_toArray, List.getElem?_cons_succ, List.getElem?_cons_zero]; rfl)
      go_simp
      refine hK.out _ _ (hS.alloc hS.size _) (fun hHeld => ?_)
      clear hK K
      try simp only [Act.put, List.setIfInBounds_toArray, List.set_cons_succ, List.set_cons_zero]
      clear hS
      have hS := hHeld
      clear hHeld
      refine wpAnyH_ready (rs := [11]) (by kernel_rfl) (by simp) ?_
      refine' AllReadyH.cons ?hoc11p (fun K hK => ?stc11p) AllReadyH.nil
      case hoc11p => (simp only [List.getElem?_toArray, List.getElem?_cons_succ, List.getElem?_cons_zero]; rfl)
      refine step_app rfl _ _ rfl rfl rfl rfl HR.out ?_
      refine hK.out _ _ HB2.out (fun hHeld => ?_)
      clear hK K
      try simp only [Act.put, List.setIfInBounds_toArray, List.set_cons_succ, List.set_cons_zero]
      clear hS
      have hS := hHeld
      clear hHeld
      refine' wpAnyH_take (i := 12) ?h1x12p ?hsx12p ?hfx12p ?hrx12p ?hQx12p (Or.inl ⟨?hwx12p, ?hyx12p⟩) hS ?restx12p
      case h1x12p => (simp only [List.getElem?_toArray, List.getElem?_cons_succ, List.getElem?_cons_zero]; rfl)
      case hsx12p => kernel_rfl
      case hfx12p => kernel_rfl
      case hrx12p => kernel_rfl
      case hQx12p => exact fun _ _ _ h => h
      case hwx12p => rfl
      case hyx12p =>
        intro W hW
        go_simp
        try with_reducible rfl
      simp only [Act.put, List.setIfInBounds_toArray, List.set_cons_succ, List.set_cons_zero]
      refine wpAnyH_done (by kernel_rfl) ?_ _
      go_wp2_with fail
      go_roundw
      case rel => exact ⟨i + 1, q1, c1, by omega, by go_num, rfl, HO1.out, HB2.out⟩
      case measure => simp [intOf]; omega
    · have hi16e : i = 16 := by omega
      have hnl : ¬ (i : Int) < 16 := by omega
      rw [hi16e] at ho
      have HI := Lib.hid hi16e
      have HO := Lib.hid ho
      have HB := Lib.hid hb
      have hl : Hid ((jn xs ys).length = 16) := tab_len _ _
      clear ho hb hi16e hi hlt
      go_wp2_with fail
      go_ret
      unfold OwnP
      rw [hl.out]
      exact ⟨q, c, by rw [HI.out]; rfl, HO.out, HB.out⟩
set_option maxRecDepth 100000 in
theorem blk_part {b : List Nat} (i k : Nat) (hi : i = 16 * k) (hl : i + 16 ≤ b.length) : ((b.drop i).take 16) = blk b k := by
  have l1 : ((b.drop i).take 16).length = 16 := by rw [List.length_take, List.length_drop]; omega
  refine bts_ext l1 (tab_len _ _) fun j hj => ?_
  unfold blk
  rw [tab_at _ _ _ hj]
  unfold at_
  simp only [List.getD_eq_getElem?_getD]
  rw [List.getElem?_take_of_lt hj, List.getElem?_drop, hi]
set_option maxRecDepth 100000 in
theorem Own.place {w : World} {base : Nat} {v : Value} {xs : List Nat} (h : Own w base v xs) : ∀ t, v.ownBlock = some t → base ≤ t ∧ t < w.heap.size := fun t e => by
  rcases h.2.2 with ⟨rfl, _⟩ | ⟨g, cap, cur, rfl, hb, hg, _⟩
  · simp [Value.ownBlock] at e
  · have : g = t := by simpa [Value.ownBlock] using e
    subst this
    exact ⟨hb, blk_lt hg⟩
set_option maxRecDepth 100000 in
set_option maxHeartbeats 8000000 in
/-- A sector turned (bk false), or turned back. -/
theorem refSector (k1 k2 tw b : List Nat) (hk1 : Bts 32 k1) (hk2 : Bts 32 k2) (htw : Bts 16 tw) (g1 g2 L n : Nat) (bk : Bool) (q0 : Option Addr) (c0 : Nat) (x : Option Addr) (cap : Nat) (w : World) (hx1 : RC w g1 k1) (hx2 : RC w g2 k2) (ht : Sees w (.slice q0 16 c0) tw) (hs : Sees w (.slice x L cap) b) (hL : L = b.length) (hn : L = 16 * n) (h0 : 0 < n) (h4 : n ≤ 4096) :
    Calls Tryd.prog 37 #[.pointer (some ⟨g1, 0, none⟩), .pointer (some ⟨g2, 0, none⟩), .slice q0 16 c0, .slice x L cap, .bool bk] w fun e w' => ∃ q c, e = .returned (.tuple #[.slice q L c, .int .i64 0]) ∧ Sees w' (.slice q L c) (sct (cond bk (dec k1) (enc k1)) (enc k2 tw) b n) ∧ Below w.heap.size w w' := by
  obtain ⟨bb, bo, rfl, hbl, hcl, hcm, hc⟩ := hs.cells (fun e => by rw [e] at hL; simp at hL; omega)
  clear hbl
  have HB : Hid (Byt b) := hs.1
  have HC : Hid (∀ i, i < b.length → w.cell? ⟨bb, bo + i, none⟩ = some (.int .u8 (at_ b i : Nat))) := hc
  have LB : Hid (bb < w.heap.size) := World.block_lt_of_cell? w _ (hc 0 (by omega))
  have HCM := Lib.hid hcm
  have HLL := Lib.hid hL
  have HN := Lib.hid hn
  have T2 := Lib.hid (refTurn g2 k2 tw q0 c0 w hk2 htw hx2 ht)
  have X1 := Lib.hid hx1
  have MB : Hid (∀ k, Bts 16 (mskn (enc k2 tw) k)) := fun k => mskn_bts (enc_bts hk2 htw) k
  have MS : Hid (∀ k, mskn (enc k2 tw) (k + 1) = dbm (mskn (enc k2 tw) k)) := fun k => rfl
  have RF : Hid (∀ (W : World) (q : Option Addr) (c : Nat) (z : List Nat), Bts 16 z → RC W g1 k1 → Sees W (.slice q 16 c) z → Calls Tryd.prog (cond bk 63 60) #[.pointer (some ⟨g1, 0, none⟩), .slice q 16 c] W (SP W ((cond bk (dec k1) (enc k1)) z))) := fun W q c z hz h1 h2 => by
    cases bk with
    | true =>
      have := refBack g1 k1 z q c W hk1 hz h1 h2
      rw [← aesTurns.back_flat] at this; exact this
    | false =>
      have := refTurn g1 k1 z q c W hk1 hz h1 h2
      rw [← turn_flat] at this; exact this
  have FB : Hid (∀ z, Bts 16 z → Bts 16 ((cond bk (dec k1) (enc k1)) z)) := fun z hz => by
    cases bk with
    | true => exact dec_bts hk1 hz
    | false => exact enc_bts hk1 hz
  have e1 : turn (rkey k2) tw = enc k2 tw := (turn_flat k2 tw).symm
  rw [e1] at T2
  have M0 : Hid (mskn (enc k2 tw) 0 = enc k2 tw) := rfl
  have SL0 : Hid (∀ k, (sct (cond bk (dec k1) (enc k1)) (enc k2 tw) b k).length = 16 * k) := fun k => sct_len _ _ _ k
  have SS : Hid (∀ k, sct (cond bk (dec k1) (enc k1)) (enc k2 tw) b (k + 1) = sct (cond bk (dec k1) (enc k1)) (enc k2 tw) b k ++ jn ((cond bk (dec k1) (enc k1)) (jn (blk b k) (mskn (enc k2 tw) k))) (mskn (enc k2 tw) k)) := fun k => rfl
  have S0 : Hid (sct (cond bk (dec k1) (enc k1)) (enc k2 tw) b 0 = []) := rfl
  have hrem : (L : Int).tmod 16 = 0 := by rw [Int.tmod_eq_emod_of_nonneg (by omega)]; omega
  have hLz : ((L : Int) == 0) = false := by simp; omega
  have hL6 : (L : Int) ≤ 65536 := by omega
  generalize cond bk (dec k1) (enc k1) = F at *
  generalize sct F (enc k2 tw) b = J at *
  generalize mskn (enc k2 tw) = M at *
  generalize enc k2 tw = m0 at *
  clear hL hn hs hc hk1 hk2 htw hx1 hx2 ht e1 hcm
  go_enter Tryd.func37, Tryd.ntmps37
  go_wp2_with fail
  refine (T2.out).mono ?_
  rintro e w1 ⟨qm, cm, rfl, hm, hb1⟩
  rw [← M0.out] at hm
  have HM1 := Lib.hid hm
  have HB1 := Lib.hid hb1
  clear hm hb1 T2 M0
  go_wp2_with fail
  go_loopw [12, 13, 14, 15] (fun vm vo vi _ wr => ∃ (k : Nat) (qm : Option Addr) (cm : Nat) (qo : Option Addr) (co : Nat), k ≤ n ∧ vi = .int .i64 ((16 * k : Nat) : Int) ∧ vm = .slice qm 16 cm ∧ vo = .slice qo (16 * k) co ∧ Sees wr (.slice qm 16 cm) (M k) ∧ Own wr w.heap.size (.slice qo (16 * k) co) (J k) ∧ Below w.heap.size w wr ∧ ∀ t, (Value.slice qo (16 * k) co).ownBlock = some t → (Value.slice qm 16 cm).ownBlock ≠ some t) (fun _ _ vi _ _ => L - (intOf vi).toNat)
  case atStart => exact ⟨0, qm, cm, none, 0, by omega, rfl, rfl, rfl, HM1.out, by rw [S0.out]; exact own_nil _ _, HB1.out, fun t e => by simp [Value.ownBlock] at e⟩
  case round =>
    clear HM1 HB1
    obtain ⟨k, qm, cm, qo, co, hk, rfl, rfl, rfl, hm, ho, hb, hap⟩ := hrel
    by_cases hlt : k < n
    · have BB : Hid (Bts 16 (blk b k)) := blk_bts HB.out k
      have sp : Sees wr (.slice (some ⟨bb, bo + 16 * k, none⟩) 16 (cap - 16 * k)) (blk b k) := by
        have := sees_part (w := wr) (b := bb) (o := bo) HB.out (fun i hi => (hb.cell (p := ⟨bb, bo + i, none⟩) LB.out).trans (HC.out i hi)) (16 * k) 16 (by have := HLL.out; have := HN.out; omega) (by omega) (cap - 16 * k) (by have := HN.out; omega) (by have := HCM.out; omega)
        rw [blk_part (16 * k) k rfl (by have := HLL.out; have := HN.out; omega)] at this
        exact this
      obtain ⟨i, hi16⟩ : ∃ i, i = 16 * k := ⟨_, rfl⟩
      rw [← hi16] at sp ho hap
      have AP := Lib.hid hap
      have s1 := sl_part bb bo L cap i (i + 16) (by omega) (by have := HN.out; omega) hcl
      rw [show i + 16 - i = 16 by omega] at s1
      have e16 : (((i + 16 : Nat) : Nat) : Int) = (i : Int) + 16 := by omega
      rw [e16] at s1
      have CP := Lib.hid (copy _ _ (by rw [BB.out.1]; omega) wr sp)
      have hiL : (i : Int) < (L : Int) := by have := HN.out; omega
      have hi6 : (i : Int) ≤ 65536 := by omega
      have HI := Lib.hid hi16
      have HO := Lib.hid ho
      have HMM := Lib.hid hm
      have HBW := Lib.hid hb
      have MK := Lib.hid (MB.out k)
      have MK1 := Lib.hid (MS.out k)
      have SK := Lib.hid (SS.out k)
      have SLK := Lib.hid (SL0.out k)
      have SLK1 := Lib.hid (SL0.out (k + 1))
      have JL : Hid (∀ a c : List Nat, (jn a c).length = 16) := fun a c => tab_len _ _
      rw [← hi16]
      clear sp e16 hm ho hb hi16 hap
      cases bk
      all_goals
        go_wp2_with fail
        refine (CP.out).mono ?_
        rintro e w2 ⟨q1, c1, rfl, ho1, hb2⟩
        rw [BB.out.1] at ho1 ⊢
        have HS1 := Lib.hid ho1.sees
        have HM2 := Lib.hid (HMM.out.below hb2)
        have HO2 := Lib.hid (HO.out.below hb2)
        have HB2 := Lib.hid (HBW.out.trans (hb2.mono HBW.out.size))
        clear ho1 hb2
        go_wp2_with fail
        refine (refXor16 q1 c1 (blk b k) qm cm (M k) w2 BB.out.1.symm MK.out.1.symm HS1.out HM2.out).mono ?_
        rintro e w3 ⟨q2, c2, rfl, ho3, hb3⟩
        rw [JL.out] at ho3 ⊢
        have HS3 := Lib.hid ho3.sees
        have HM3 := Lib.hid (HM2.out.below hb3)
        have HO3 := Lib.hid (HO2.out.below hb3)
        have HB3 := Lib.hid (HB2.out.trans (hb3.mono HB2.out.size))
        have JB : Hid (Bts 16 (jn (blk b k) (M k))) := jn_bts BB.out MK.out
        clear ho3 hb3
        go_wp2_with fail
        refine (RF.out w3 q2 c2 _ JB.out (X1.out.below HB3.out) HS3.out).mono ?_
        rintro e w4 ⟨q4, c4, rfl, hs4, hb4⟩
        have HS4 := Lib.hid hs4
        have HM4 := Lib.hid (HM3.out.below hb4)
        have HO4 := Lib.hid (HO3.out.below hb4)
        have HB4 := Lib.hid (HB3.out.trans (hb4.mono HB3.out.size))
        have FB4 := Lib.hid (FB.out _ JB.out)
        clear hs4 hb4
        go_wp2_with fail
        refine (refXor16 q4 c4 _ qm cm (M k) w4 FB4.out.1.symm MK.out.1.symm HS4.out HM4.out).mono ?_
        rintro e w5 ⟨q5, c5, rfl, ho5, hb5⟩
        have HM5 := Lib.hid (HM4.out.below hb5)
        have ho6 := HO4.out.below hb5
        have HB5 := Lib.hid (HB4.out.trans (hb5.mono HB4.out.size))
        rw [JL.out] at ho5 ⊢
        obtain ⟨q7, c7, w7, hrun, ho7, hb7x, hb7⟩ := app ho6 ho5.sees (by rw [SLK.out, JL.out]; have := HI.out; omega) (Nat.le_trans HB4.out.size hb5.size)
        rw [SLK.out, JL.out, ← HI.out] at hrun
        rw [SLK.out, JL.out, ← HI.out, ← SK.out] at ho7
        have HR := Lib.hid hrun
        have HO7 := Lib.hid ho7
        have HM7 := HM5.out.grown hb7x (fun t e _ => AP.out t e)
        have PL := Lib.hid ho7.place
        have HB7 := Lib.hid (HB5.out.trans hb7)
        obtain ⟨bm, om, rfl, _, _, _, hcm7⟩ := HM7.at16 (by rw [MK.out.1]; omega)
        have DD := Lib.hid (refDouble (M k) MK.out bm om cm w7 (fun i hi => hcm7 i (by rw [MK.out.1]; exact hi)))
        rename_i u1 u2 u3
        clear u1 u2 u3 hrun ho7 hb7x hb7 ho6 ho5 hb5 HM7 hcm7 HM5
        go_wp2_with (at_builtin; refine wpList_app rfl _ _ rfl rfl rfl rfl HR.out ?_)
        refine (DD.out).mono ?_
        rintro e w9 ⟨q9, c9, rfl, ho9, hb9⟩
        have DL : (dbm (M k)).length = 16 := (dbm_bts MK.out).1
        rw [DL] at ho9 ⊢
        have HM9 : Hid (Sees w9 (.slice q9 16 c9) (M (k + 1))) := by show Sees _ _ _; rw [MK1.out]; exact ho9.sees
        have HO9 := Lib.hid (HO7.out.below hb9)
        have HB9 := Lib.hid (HB7.out.trans (hb9.mono HB7.out.size))
        have AP9 : Hid (∀ t, (Value.slice q7 (i + 16) c7).ownBlock = some t → (Value.slice q9 16 c9).ownBlock ≠ some t) := fun t e1 e2 => by
          have h1 := (PL.out t e1).2
          have h2 := (ho9.place t e2).1
          omega
        have EI : Hid (i + 16 = 16 * (k + 1)) := by show _ = _; have := HI.out; omega
        clear ho9 hb9 DL
        go_wp2_with fail
        go_roundw
        case rel =>
          refine ⟨k + 1, q9, c9, q7, c7, by omega, ?_, rfl, by rw [EI.out], HM9.out, by rw [← EI.out]; exact HO9.out, HB9.out, by rw [← EI.out]; exact AP9.out⟩
          rw [← EI.out]; go_num
        case measure => have := HI.out; have := HN.out; simp [intOf]; omega
    · have hkn : k = n := by omega
      have HO := Lib.hid ho
      have HBW := Lib.hid hb
      have hnl : ¬ ((16 * k : Nat) : Int) < (L : Int) := by have := HN.out; omega
      have HK := Lib.hid hkn
      obtain ⟨i, hi⟩ : ∃ i, i = 16 * k := ⟨_, rfl⟩
      rw [← hi] at HO hnl ⊢
      have HIL : Hid (i = L) := by show _ = _; rw [hi, hkn]; exact HN.out.symm
      clear hkn hi hm ho hb hap hk hlt
      go_wp2_with fail
      go_ret2
      refine ⟨qo, co, by rw [HIL.out]; rfl, ?_, HBW.out⟩
      rw [← HK.out, ← HIL.out]
      exact HO.out.sees
set_option maxRecDepth 100000 in
set_option maxHeartbeats 1000000 in
theorem refSectorNo (p1 p2 t0 : Value) (bk : Bool) (x : Option Addr) (L cap : Nat) (hm : L ≤ 9223372036854775807) (h : L = 0 ∨ L % 16 ≠ 0 ∨ 65536 < L) (w : World) :
    Calls Tryd.prog 37 #[p1, p2, t0, .slice x L cap, .bool bk] w fun e w' => e = .returned (.tuple #[.slice none 0 0, .int .i64 3]) ∧ w = w' := by
  by_cases h0 : L = 0
  · have z0 : ((L : Int) == 0) = true := by simp [h0]
    clear h h0
    go_enter Tryd.func37, Tryd.ntmps37
    go_wp2_with fail
    go_ret2
    exact ⟨rfl, rfl⟩
  · have z0 : ((L : Int) == 0) = false := by simp [h0]
    obtain ⟨r, hr⟩ : ∃ r, r = L % 16 := ⟨_, rfl⟩
    have tr : (L : Int).tmod 16 = (r : Int) := by rw [Int.tmod_eq_emod_of_nonneg (by omega)]; omega
    by_cases h1 : r = 0
    · have h6 : (65536 : Int) < (L : Int) := by omega
      have z1 : ((r : Int) == 0) = true := by simp [h1]
      have z2 : ((r : Int) != 0) = false := by simp [h1]
      clear h h0 hr h1
      go_enter Tryd.func37, Tryd.ntmps37
      go_wp2_with fail
      go_ret2
      exact ⟨rfl, rfl⟩
    · have z1 : ((r : Int) == 0) = false := by simp [h1]
      have z2 : ((r : Int) != 0) = true := by simp [h1]
      clear h h0 hr h1
      go_enter Tryd.func37, Tryd.ntmps37
      go_wp2_with fail
      go_ret2
      exact ⟨rfl, rfl⟩
end Go.Proofs.YtpkeofioobmmoaaDoor.ae
