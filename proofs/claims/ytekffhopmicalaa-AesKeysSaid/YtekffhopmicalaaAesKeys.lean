/-
  For all keys the law AesKeys of package casematelaw05 returns true, and they read afterwards as before: the first eight words are the key, and what is made of them is the same again. Condition: none.
-/
import Derived.Test.YtekffhopmicalaaR
namespace Go.Proofs.Ytekffhopmicalaa.aesKeys
open Go.ChangeShapes Go.WideShapes Go.ChangeAt Go.RowKit
set_option maxRecDepth 100000 in
set_option maxHeartbeats 4000000 in
theorem walk (key : List Nat) (hk : Bts 32 key) (w : World) : Calls Try.prog 7 #[.agg (ncells key)] w fun e w' => e = .returned (.bool true) ∧ Below w.heap.size w w' := by
  have zz := zero30
  have z3 := zero23
  obtain ⟨Z, hZ⟩ : ∃ Z, Z = ncells (zeros 240) := ⟨_, rfl⟩
  rw [← hZ] at zz
  obtain ⟨Y, hY⟩ : ∃ Z, Z = ncells (zeros 32) := ⟨_, rfl⟩
  rw [← hY] at z3
  have FY : Hid (Y = ncells (fillr 32 (at_ key) 0)) := by show _ = _; rw [fillr_zero, hY]
  have EY : Hid (fillr 32 (at_ key) 32 = key) := by show _ = _; rw [fillr_all]; exact tab_self 32 key hk.1
  have HK := Lib.hid hk
  have FB : Hid (Bts 240 (flat key)) := flat_bts hk
  have NW : Hid (∀ W : World, Calls Try.prog 17 #[.agg (ncells key)] W (NewP W (flat key))) := fun W => newC key hk W
  have WC : Hid (∀ (g : Nat) (W : World), CIat W g (flat key) → Calls Try.prog 19 #[.pointer (some ⟨g, 0, none⟩)] W fun e w' => e = .returned (.agg (ncells (flat key))) ∧ Below W.heap.size W w') := fun g W h => wordsC (flat key) (flat_bts hk).1 g W h
  have Q1 : Hid (∀ W : World, (Op.equalIn 10000 23 (.agg (ncells key)) (.agg (ncells key))).run Try.prog W = .ok true W) := fun W => by
    have := eq23 key key hk hk W
    simpa using this
  have Q2 : Hid (∀ W : World, (Op.equalIn 10000 30 (.agg (ncells (flat key))) (.agg (ncells (flat key)))).run Try.prog W = .ok true W) := fun W => eq30 _ (flat_bts hk) W
  have FK : Hid (∀ q r, q < 8 → r < 4 → at_ (flat key) (q * 4 + r) = at_ key (4 * q + r)) := fun q r hq hr => by rw [Nat.mul_comm q 4]; exact flat_key q r hq hr
  have IF := Lib.hid (i30 (flat_bts hk).1)
  have ZF : Hid (Z.size = (ncells (flat key)).size) := by show _ = _; rw [hZ]; exact z30 (flat_bts hk).1
  have OF := Lib.hid (none_ (flat key))
  generalize flat key = F at *
  have hn := heap_alloc_new w (.cells (ncells key) 23)
  have G0 := Lib.hid hn
  have HB : Hid (Below w.heap.size w (w.alloc (.cells (ncells key) 23))) := (Below.refl _ _).alloc (Nat.le_refl _) _
  clear hZ hY hk hn
  go_enter Try.func7, Try.ntmps7
  go_wp2_with (first
    | (refine wpList_load_row rfl 23 (.tmp 1) rfl w.heap.size rfl 23 (ncells key) (0, 0) _ G0.out Try.underlying23 rfl (i23 HK.out.1) ?_))
  refine (NW.out _).mono ?_
  rintro e w1 ⟨g, rfl, hge, hci, hb⟩
  have C1 := Lib.hid hci
  have B1 := Lib.hid (HB.out.trans (hb.mono HB.out.size))
  have G01 := Lib.hid ((hb.block _ (blk_lt G0.out)).trans G0.out)
  clear hci hb hge G0 HB
  go_wp2_with fail
  refine (WC.out _ _ C1.out).mono ?_
  rintro e w2 ⟨rfl, hb⟩
  have B2 := Lib.hid (B1.out.trans (hb.mono B1.out.size))
  have G02 := Lib.hid ((hb.block _ (blk_lt G01.out)).trans G01.out)
  clear hb G01 C1 B1
  have HN := Lib.hid (heap_alloc_new w2 (.cells Z 30))
  go_wp2_with (first
    | (refine wpList_store_row rfl 30 (.tmp 4) (.tmp 13) rfl w2.heap.size (ncells F) rfl rfl 30 Z HN.out IF.out ZF.out OF.out ?_))
  have b3 : Below w2.heap.size w2 (((w2.alloc (.cells Z 30)).setRow w2.heap.size (ncells F)).alloc (.cells Y 23)) := (((Below.refl _ _).alloc (Nat.le_refl _) _).trans (below_row _ _ (Nat.le_refl _))).alloc (by simp) _
  have g4 : (((w2.alloc (.cells Z 30)).setRow w2.heap.size (ncells F)).alloc (.cells Y 23)).heap[w2.heap.size]? = some (.cells (ncells F) 30 (0, 0)) := by
    rw [Below.heap_alloc _ _ _ (by simp)]; exact setRow_heap _ _ _ _ _ _ HN.out
  have g5 : (((w2.alloc (.cells Z 30)).setRow w2.heap.size (ncells F)).alloc (.cells Y 23)).heap[w2.heap.size + 1]? = some (.cells Y 23 (0, 0)) := by
    have := heap_alloc_new ((w2.alloc (.cells Z 30)).setRow w2.heap.size (ncells F)) (.cells Y 23)
    simpa using this
  have g0 := (b3.block _ (blk_lt G02.out)).trans G02.out
  have hb3 := B2.out.trans (b3.mono B2.out.size)
  generalize ((w2.alloc (.cells Z 30)).setRow w2.heap.size (ncells F)).alloc (.cells Y 23) = w3 at *
  have hw2 := B2.out.size
  obtain ⟨n, hn⟩ : ∃ n, n = w2.heap.size := ⟨_, rfl⟩
  rw [← hn] at g4 g5 hw2
  have G4 := Lib.hid g4
  have G5 := Lib.hid g5
  have G0 := Lib.hid g0
  have HB3 := Lib.hid hb3
  have HNN := Lib.hid hn
  rw [← HNN.out]
  clear g4 g5 g0 hb3 b3 G02 B2 HN
  clear hn
  clear HNN
  clear w2
  go_loopw [6] (fun vi wr => ∃ i : Nat, i ≤ 32 ∧ vi = .int .i64 i ∧ wr.heap[w.heap.size]? = some (.cells (ncells key) 23 (0, 0)) ∧ wr.heap[n]? = some (.cells (ncells F) 30 (0, 0)) ∧ wr.heap[n + 1]? = some (.cells (ncells (fillr 32 (at_ key) i)) 23 (0, 0)) ∧ Below w.heap.size w wr) (fun vi _ => 32 - (intOf vi).toNat)
  case atStart => exact ⟨0, by omega, rfl, G0.out, G4.out, by rw [← FY.out]; exact G5.out, HB3.out⟩
  case round =>
    clear G0 G4 G5 HB3
    obtain ⟨i, hi, rfl, hg0, hg4, hg5, hbel⟩ := hrel
    by_cases hlt : i < 32
    · have hi32 : (i : Int) < 32 := by omega
      obtain ⟨q, hq⟩ : ∃ q, q = i / 4 := ⟨_, rfl⟩
      obtain ⟨r, hr⟩ : ∃ r, r = i % 4 := ⟨_, rfl⟩
      have eq : (i : Int) / 4 = (q : Int) := by omega
      have er : (i : Int) % 4 = (r : Int) := by omega
      have q8 : (q : Int) < 60 := by omega
      have r4 : (r : Int) < 4 := by omega
      have c1 := cell_at hg4 FB.out.1 (show q * 4 + r < 240 by omega)
      rw [FK.out q r (by omega) (by omega), show 4 * q + r = i by omega] at c1
      have c2 := cell_at hg5 (fillr_len _ _ _) hlt
      have f2 := frozen_of_row wr (n + 1) i _ 23 hg5
      have US := Lib.hid (fillr_set 32 (at_ key) i)
      have H0 := Lib.hid hg0
      have H4 := Lib.hid hg4
      have H5 := Lib.hid hg5
      have HB := Lib.hid hbel
      clear hg0 hg4 hg5 hbel hq hr
      generalize at_ (fillr 32 (at_ key) i) i = y at *
      generalize at_ key i = x at *
      go_wp2_with fail
      go_roundw
      case rel =>
        refine ⟨i + 1, by omega, by go_num, ?_, ?_, ?_, HB.out.setCell (by simp <;> omega) _⟩
        · rw [heap_setCell_other _ _ _ _ (by simp <;> omega)]; exact H0.out
        · rw [heap_setCell_other _ _ _ _ (by simp <;> omega)]; exact H4.out
        · rw [heap_setCell_same _ _ _ _ _ _ H5.out, US.out]
      case measure => simp [intOf]; omega
    · obtain rfl : i = 32 := by omega
      rw [EY.out] at hg5
      obtain ⟨wo, rfl⟩ : ∃ wo : World, wo = wr := ⟨_, rfl⟩
      have H0 := Lib.hid hg0
      have H4 := Lib.hid hg4
      have H5 := Lib.hid hg5
      have HB := Lib.hid hbel
      clear hg0 hg4 hg5 hbel hi hlt
      go_wp2_with (first
        | (refine wpList_load_row rfl 23 (.tmp 5) rfl (n + 1) rfl 23 (ncells key) (0, 0) _ H5.out Try.underlying23 rfl (i23 HK.out.1) ?_))
      refine (NW.out _).mono ?_
      rintro e w5 ⟨g5, rfl, hge, hci, hb⟩
      have C5 := Lib.hid hci
      have B5 := Lib.hid (HB.out.trans (hb.mono HB.out.size))
      have K0 := Lib.hid ((hb.block _ (blk_lt H0.out)).trans H0.out)
      have K4 := Lib.hid ((hb.block _ (blk_lt H4.out)).trans H4.out)
      have K5 := Lib.hid ((hb.block _ (blk_lt H5.out)).trans H5.out)
      clear hci hb hge H0 H4 H5 HB
      go_wp2_with fail
      have q1 := Q1.out
      have q2 := Q2.out
      refine wp_region_held_drew (S := fun W => Below w5.heap.size w5 W) (by kernel_rfl) (Below.refl _ _).drew (fun hS => ?_)
      refine wpAnyH_ready (rs := [0]) (by kernel_rfl) (by simp) ?_
      refine' AllReadyH.cons ?hoc0p (fun K hK => ?stc0p) AllReadyH.nil
      case hoc0p => (simp only [List.getElem?_toArray, List.getElem?_cons_zero]; rfl)
      go_simp
      refine (alive5 _).mono ?_
      rintro e wa ⟨rfl, hb⟩
      go_wp2_with fail
      refine hK.out _ _ (hS.trans (hb.mono hS.size)) (fun hHeld => ?_)
      clear hK K
      try simp only [Act.put, List.setIfInBounds_toArray, List.set_cons_succ, List.set_cons_zero]
      clear hS hb
      have hS := hHeld
      clear hHeld
      refine' wpAnyH_take (i := 1) ?h1x1p ?hsx1p ?hfx1p ?hrx1p ?hQx1p (Or.inl ⟨?hwx1p, ?hyx1p⟩) hS ?restx1p
      case h1x1p => (simp only [List.getElem?_toArray, List.getElem?_cons_succ, List.getElem?_cons_zero]; rfl)
      case hsx1p => kernel_rfl
      case hfx1p => kernel_rfl
      case hrx1p => kernel_rfl
      case hQx1p => exact fun _ _ _ h => h
      case hwx1p => rfl
      case hyx1p =>
        intro W hW
        go_simp
        try with_reducible rfl
      simp only [Act.put, List.setIfInBounds_toArray, List.set_cons_succ, List.set_cons_zero]
      refine' wpAnyH_take (i := 2) ?h1x2p ?hsx2p ?hfx2p ?hrx2p ?hQx2p (yieldsIf_load_at ?hwx2p 23 (.tmp 5) ?hopx2p (n + 1) 0 rfl (ncells key) _ (fun W hW => range_row ((hW.block _ (blk_lt K5.out)).trans K5.out)) Try.underlying23 rfl ?hix2p) hS ?restx2p
      case h1x2p => (simp only [List.getElem?_toArray, List.getElem?_cons_succ, List.getElem?_cons_zero]; rfl)
      case hopx2p => rfl
      case hsx2p => kernel_rfl
      case hfx2p => kernel_rfl
      case hrx2p => kernel_rfl
      case hQx2p => exact fun _ _ _ h => h
      case hwx2p => rfl
      case hix2p => exact (i23 HK.out.1)
      simp only [Act.put, List.setIfInBounds_toArray, List.set_cons_succ, List.set_cons_zero]
      refine' wpAnyH_take (i := 3) ?h1x3p ?hsx3p ?hfx3p ?hrx3p ?hQx3p (yieldsIf_load_at ?hwx3p 23 (.tmp 1) ?hopx3p w.heap.size 0 rfl (ncells key) _ (fun W hW => range_row ((hW.block _ (blk_lt K0.out)).trans K0.out)) Try.underlying23 rfl ?hix3p) hS ?restx3p
      case h1x3p => (simp only [List.getElem?_toArray, List.getElem?_cons_succ, List.getElem?_cons_zero]; rfl)
      case hopx3p => rfl
      case hsx3p => kernel_rfl
      case hfx3p => kernel_rfl
      case hrx3p => kernel_rfl
      case hQx3p => exact fun _ _ _ h => h
      case hwx3p => rfl
      case hix3p => exact (i23 HK.out.1)
      simp only [Act.put, List.setIfInBounds_toArray, List.set_cons_succ, List.set_cons_zero]
      refine' wpAnyH_take (i := 4) ?h1x4p ?hsx4p ?hfx4p ?hrx4p ?hQx4p (Or.inl ⟨?hwx4p, ?hyx4p⟩) hS ?restx4p
      case h1x4p => (simp only [List.getElem?_toArray, List.getElem?_cons_succ, List.getElem?_cons_zero]; rfl)
      case hsx4p => kernel_rfl
      case hfx4p => kernel_rfl
      case hrx4p => kernel_rfl
      case hQx4p => exact fun _ _ _ h => h
      case hwx4p => rfl
      case hyx4p =>
        intro W hW
        go_simp
        try with_reducible rfl
      simp only [Act.put, List.setIfInBounds_toArray, List.set_cons_succ, List.set_cons_zero]
      refine' wpAnyH_take (i := 5) ?h1x5p ?hsx5p ?hfx5p ?hrx5p ?hQx5p (Or.inl ⟨?hwx5p, ?hyx5p⟩) hS ?restx5p
      case h1x5p => (simp only [List.getElem?_toArray, List.getElem?_cons_succ, List.getElem?_cons_zero]; rfl)
      case hsx5p => kernel_rfl
      case hfx5p => kernel_rfl
      case hrx5p => kernel_rfl
      case hQx5p => exact fun _ _ _ h => h
      case hwx5p => rfl
      case hyx5p =>
        intro W hW
        go_simp
        try with_reducible rfl
      simp only [Act.put, List.setIfInBounds_toArray, List.set_cons_succ, List.set_cons_zero]
      refine' wpAnyH_take (i := 6) ?h1x6p ?hsx6p ?hfx6p ?hrx6p ?hQx6p (Or.inl ⟨?hwx6p, ?hyx6p⟩) hS ?restx6p
      case h1x6p => (simp only [List.getElem?_toArray, List.getElem?_cons_succ, List.getElem?_cons_zero]; rfl)
      case hsx6p => kernel_rfl
      case hfx6p => kernel_rfl
      case hrx6p => kernel_rfl
      case hQx6p => exact fun _ _ _ h => h
      case hwx6p => rfl
      case hyx6p =>
        intro W hW
        go_simp
        try with_reducible rfl
      simp only [Act.put, List.setIfInBounds_toArray, List.set_cons_succ, List.set_cons_zero]
      refine' wpAnyH_take (i := 7) ?h1x7p ?hsx7p ?hfx7p ?hrx7p ?hQx7p (Or.inl ⟨?hwx7p, ?hyx7p⟩) hS ?restx7p
      case h1x7p => (simp only [List.getElem?_toArray, List.getElem?_cons_succ, List.getElem?_cons_zero]; rfl)
      case hsx7p => kernel_rfl
      case hfx7p => kernel_rfl
      case hrx7p => kernel_rfl
      case hQx7p => exact fun _ _ _ h => h
      case hwx7p => rfl
      case hyx7p =>
        intro W hW
        go_simp
        try with_reducible rfl
      simp only [Act.put, List.setIfInBounds_toArray, List.set_cons_succ, List.set_cons_zero]
      refine' wpAnyH_take (i := 8) ?h1x8p ?hsx8p ?hfx8p ?hrx8p ?hQx8p (Or.inl ⟨?hwx8p, ?hyx8p⟩) hS ?restx8p
      case h1x8p => (simp only [List.getElem?_toArray, List.getElem?_cons_succ, List.getElem?_cons_zero]; rfl)
      case hsx8p => kernel_rfl
      case hfx8p => kernel_rfl
      case hrx8p => kernel_rfl
      case hQx8p => exact fun _ _ _ h => h
      case hwx8p => rfl
      case hyx8p =>
        intro W hW
        go_simp
        try with_reducible rfl
      simp only [Act.put, List.setIfInBounds_toArray, List.set_cons_succ, List.set_cons_zero]
      refine' wpAnyH_take (i := 9) ?h1x9p ?hsx9p ?hfx9p ?hrx9p ?hQx9p (Or.inl ⟨?hwx9p, ?hyx9p⟩) hS ?restx9p
      case h1x9p => (simp only [List.getElem?_toArray, List.getElem?_cons_succ, List.getElem?_cons_zero]; rfl)
      case hsx9p => kernel_rfl
      case hfx9p => kernel_rfl
      case hrx9p => kernel_rfl
      case hQx9p => exact fun _ _ _ h => h
      case hwx9p => rfl
      case hyx9p =>
        intro W hW
        go_simp
        try with_reducible rfl
      simp only [Act.put, List.setIfInBounds_toArray, List.set_cons_succ, List.set_cons_zero]
      refine' wpAnyH_take (i := 10) ?h1x10p ?hsx10p ?hfx10p ?hrx10p ?hQx10p (Or.inl ⟨?hwx10p, ?hyx10p⟩) hS ?restx10p
      case h1x10p => (simp only [List.getElem?_toArray, List.getElem?_cons_succ, List.getElem?_cons_zero]; rfl)
      case hsx10p => kernel_rfl
      case hfx10p => kernel_rfl
      case hrx10p => kernel_rfl
      case hQx10p => exact fun _ _ _ h => h
      case hwx10p => rfl
      case hyx10p =>
        intro W hW
        go_simp
        try with_reducible rfl
      simp only [Act.put, List.setIfInBounds_toArray, List.set_cons_succ, List.set_cons_zero]
      refine' wpAnyH_take (i := 11) ?h1x11p ?hsx11p ?hfx11p ?hrx11p ?hQx11p (Or.inl ⟨?hwx11p, ?hyx11p⟩) hS ?restx11p
      case h1x11p => (simp only [List.getElem?_toArray, List.getElem?_cons_succ, List.getElem?_cons_zero]; rfl)
      case hsx11p => kernel_rfl
      case hfx11p => kernel_rfl
      case hrx11p => kernel_rfl
      case hQx11p => exact fun _ _ _ h => h
      case hwx11p => rfl
      case hyx11p =>
        intro W hW
        go_simp
        try with_reducible rfl
      simp only [Act.put, List.setIfInBounds_toArray, List.set_cons_succ, List.set_cons_zero]
      refine' wpAnyH_take (i := 13) ?h1x13p ?hsx13p ?hfx13p ?hrx13p ?hQx13p (yieldsIf_load_at ?hwx13p 30 (.tmp 4) ?hopx13p n 0 rfl (ncells F) _ (fun W hW => range_row ((hW.block _ (blk_lt K4.out)).trans K4.out)) Try.underlying30 rfl ?hix13p) hS ?restx13p
      case h1x13p => (simp only [List.getElem?_toArray, List.getElem?_cons_succ, List.getElem?_cons_zero]; rfl)
      case hopx13p => rfl
      case hsx13p => kernel_rfl
      case hfx13p => kernel_rfl
      case hrx13p => kernel_rfl
      case hQx13p => exact fun _ _ _ h => h
      case hwx13p => rfl
      case hix13p => exact IF.out
      simp only [Act.put, List.setIfInBounds_toArray, List.set_cons_succ, List.set_cons_zero]
      refine wpAnyH_ready (rs := [12]) (by kernel_rfl) (by simp) ?_
      refine' AllReadyH.cons ?hoc12p (fun K hK => ?stc12p) AllReadyH.nil
      case hoc12p => (simp only [List.getElem?_toArray, List.getElem?_cons_succ, List.getElem?_cons_zero]; rfl)
      go_simp
      refine (WC.out _ _ (C5.out.below hS)).mono ?_
      rintro e wb ⟨rfl, hb⟩
      go_wp2_with fail
      refine hK.out _ _ (hS.trans (hb.mono hS.size)) (fun hHeld => ?_)
      clear hK K
      try simp only [Act.put, List.setIfInBounds_toArray, List.set_cons_succ, List.set_cons_zero]
      clear hS hb
      have hS := hHeld
      clear hHeld
      refine' wpAnyH_take (i := 14) ?h1x14p ?hsx14p ?hfx14p ?hrx14p ?hQx14p (Or.inl ⟨?hwx14p, ?hyx14p⟩) hS ?restx14p
      case h1x14p => (simp only [List.getElem?_toArray, List.getElem?_cons_succ, List.getElem?_cons_zero]; rfl)
      case hsx14p => kernel_rfl
      case hfx14p => kernel_rfl
      case hrx14p => kernel_rfl
      case hQx14p => exact fun _ _ _ h => h
      case hwx14p => rfl
      case hyx14p =>
        intro W hW
        go_simp
        try with_reducible rfl
      simp only [Act.put, List.setIfInBounds_toArray, List.set_cons_succ, List.set_cons_zero]
      refine' wpAnyH_take (i := 15) ?h1x15p ?hsx15p ?hfx15p ?hrx15p ?hQx15p (Or.inl ⟨?hwx15p, ?hyx15p⟩) hS ?restx15p
      case h1x15p => (simp only [List.getElem?_toArray, List.getElem?_cons_succ, List.getElem?_cons_zero]; rfl)
      case hsx15p => kernel_rfl
      case hfx15p => kernel_rfl
      case hrx15p => kernel_rfl
      case hQx15p => exact fun _ _ _ h => h
      case hwx15p => rfl
      case hyx15p =>
        intro W hW
        go_simp
        try with_reducible rfl
      simp only [Act.put, List.setIfInBounds_toArray, List.set_cons_succ, List.set_cons_zero]
      refine' wpAnyH_take (i := 16) ?h1x16p ?hsx16p ?hfx16p ?hrx16p ?hQx16p (Or.inl ⟨?hwx16p, ?hyx16p⟩) hS ?restx16p
      case h1x16p => (simp only [List.getElem?_toArray, List.getElem?_cons_succ, List.getElem?_cons_zero]; rfl)
      case hsx16p => kernel_rfl
      case hfx16p => kernel_rfl
      case hrx16p => kernel_rfl
      case hQx16p => exact fun _ _ _ h => h
      case hwx16p => rfl
      case hyx16p =>
        intro W hW
        go_simp
        try with_reducible rfl
      simp only [Act.put, List.setIfInBounds_toArray, List.set_cons_succ, List.set_cons_zero]
      refine wpAnyH_done (by kernel_rfl) ?_ _
      go_wp2_with fail
      go_ret
      exact ⟨rfl, B5.out.trans (hS.mono B5.out.size)⟩

set_option maxRecDepth 100000 in
theorem lifted (os : Os) (started : os.Started) (H : Type) (enc : TypeId × Value → H) :
    ReturnsInHanded {} Try.checked os 7 .any (Rows.aesKeysSpec.pre6 enc Try.prog Try.f7 Rows.aesKeysRow.domain false) (Rows.aesKeysSpec.post enc Try.prog Try.f7 false true false false) := by
  refine returnsInHanded_of_change (C := Try.checked) own started (by kernel_rfl) Try.func7
    (ChangeSpec.witness6 (enc := enc) (C := Try.checked) false ⟨#[], #[.agg (Array.replicate 32 (.int .u8 0))], []⟩ 8 (by kernel_rfl) (by kernel_rfl) (by kernel_rfl) (by kernel_rfl)) ?_
  intro W base args ds gs before hval0 hW hcnd _
  have hval : ∀ (j : Nat) t v, Try.f7.params[j]? = some t → args[j]? = some v → Value.okWide Try.prog W .any base t v := hval0
  have hW' := hW
  obtain ⟨p, q, hA0, hV, rfl, hfz, hnd⟩ := hW
  have hA : DataW.TrodAll enc Try.prog W 0 (fun _ => true) true Try.f7.params.toList args.toList ds p := hA0
  rw [Try.params7] at hA hval
  obtain ⟨v0, vs0, d0, ds0, p0, q0, hargs, rfl, rfl, h0, r0⟩ := trodAll_cons hA
  obtain ⟨rfl, rfl, rfl⟩ := trodAll_nil r0
  obtain rfl : args = #[v0] := by cases args; simp_all
  obtain ⟨rfl, rfl⟩ := trodVars_none hV
  obtain ⟨x0, b0, rfl⟩ := open_arr u23 cellsOf23 (hval 0 23 v0 rfl rfl) h0
  refine (walk x0 b0 W).mono fun e W' ⟨he, hb⟩ => ?_
  subst he
  exact ⟨_, rfl, law_post hW' rfl rfl rfl (by kernel_rfl) hb⟩

/-- The statement. -/
theorem proved : Rows.AesKeysSaid :=
  OpenClaim.holds_of_wide 7 Try.f7 rfl rfl rfl rfl rfl rfl rfl ⟨rfl, rfl, rfl, rfl, rfl⟩ rfl rfl rfl rfl rfl (by kernel_rfl) Try.func7 (by kernel_rfl)
    (of_decide_eq_true (by kernel_rfl)) (by unfold Func.isWrapper; first | (rw [if_pos (by decide +kernel)]; kernel_rfl) | (rw [if_neg (by decide +kernel)]; exact ⟨rfl, rfl⟩))
    (fun os started H enc _ => lifted os started H enc)
#print axioms proved
end Go.Proofs.Ytekffhopmicalaa.aesKeys
