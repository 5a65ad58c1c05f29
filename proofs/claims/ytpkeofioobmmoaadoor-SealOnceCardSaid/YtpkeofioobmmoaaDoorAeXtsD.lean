/-
  Contracts of the functions that the statements of package xts go through: sectors turned back. Condition: the numbers are bytes.
-/
import Derived.Test.YtpkeofioobmmoaaDoorAeXtsC
namespace Go.Proofs.YtpkeofioobmmoaaDoor.ae
open Go.RowKit
set_option maxRecDepth 100000 in
set_option maxHeartbeats 8000000 in
theorem thrB (k1 k2 tw b : List Nat) (hk1 : Bts 32 k1) (hk2 : Bts 32 k2) (htw : Bts 16 tw) (g g1 g2 L n : Nat) (x : Option Addr) (cap : Nat) (w : World) (hx : w.heap[g]? = some (.cells #[.pointer (some ⟨g1, 0, none⟩), .pointer (some ⟨g2, 0, none⟩)] 94 (0, 0)))
    (hc1 : CIat w g1 (flat k1)) (hc2 : CIat w g2 (flat k2)) (hs : Sees w (.slice x L cap) b) (hL : L = b.length) (hn : L = 16 * n) (h0 : 0 < n) (h4 : n ≤ 4096) :
    Calls Tryd.prog 51 #[.pointer (some ⟨g, 0, none⟩), .func (.func 65) #[.pointer (some ⟨g1, 0, none⟩)] #[], .agg (ncells tw), .slice x L cap] w (SecP w L (sct (dec k1) (enc k2 tw) b n)) := by
  have zz := zero47
  obtain ⟨Z, hZ⟩ : ∃ Z, Z = ncells (zeros 16) := ⟨_, rfl⟩
  rw [← hZ] at zz
  have hne : b ≠ [] := fun e => by rw [e] at hL; simp at hL; omega
  obtain ⟨bb, oo, rfl, hlx, hcl, hcm, hbc⟩ := hs.cells hne
  clear hlx
  have LGB : Hid (bb < w.heap.size) := World.block_lt_of_cell? w _ (hbc 0 (by omega))
  have LG := Lib.hid (blk_lt hx)
  have HBC := Lib.hid hbc
  have HBY := Lib.hid hs.1
  have HK1 := Lib.hid hk1
  have HTW := Lib.hid htw
  have HLb := Lib.hid hL
  have HLn := Lib.hid hn
  have CX1 : Hid (w.cell? ⟨g, 1, none⟩ = some (.pointer (some ⟨g2, 0, none⟩))) := cell_of_row _ _ 1 _ _ _ hx
  have HC1 := Lib.hid hc1
  have HC2 := Lib.hid hc2
  have HK2 := Lib.hid hk2
  have SB : Hid (∀ X, Bts 16 X → Bts 16 (dec k1 X)) := fun X h => dec_bts hk1 h
  have WAY : Hid (∀ (W : World) (X : List Nat), Bts 16 X → Below w.heap.size w W → Calls Tryd.prog 65 #[.pointer (some ⟨g1, 0, none⟩), .agg (ncells X)] W fun e w' => e = .returned (.agg (ncells (dec k1 X))) ∧ Below W.heap.size W w') :=
    fun W X hX hb => decC hk1 hX g1 W ((hb.block _ (blk_lt hc1)).trans hc1)
  have MB : Hid (Bts 16 (enc k2 tw)) := enc_bts hk2 htw
  obtain ⟨ff, hff⟩ : ∃ ff, ff = dec k1 := ⟨_, rfl⟩
  rw [← hff] at SB WAY ⊢
  clear hff
  have TE : Hid (∀ (W : World), Below w.heap.size w W → Calls Tryd.prog 52 #[.pointer (some ⟨g2, 0, none⟩), .agg (ncells tw)] W fun e w' => e = .returned (.agg (ncells (enc k2 tw))) ∧ Below W.heap.size W w') :=
    fun W hb => encC HK2.out HTW.out g2 W ((hb.block _ (blk_lt HC2.out)).trans HC2.out)
  generalize enc k2 tw = M0 at *
  have mk := mkN L (by omega)
  have IS : Hid (∀ W, Calls Tryd.prog 74 #[.slice (some ⟨bb, oo, none⟩) L cap] W fun e w' => e = .returned (.bool true) ∧ W = w') := fun W => isSecYes _ L cap (by omega) (by omega) (by omega) W
  have ZL : Hid (∀ l : List Nat, l.length = 16 → Z.size = (ncells l).size) := fun l hl => by rw [hZ]; exact z47 hl
  have ZE : Hid (Z = ncells (zeros 16)) := hZ
  have OBY : Hid (∀ k, Byt (sct ff M0 b k)) := fun k => sct_bts SB.out MB.out HBY.out k
  obtain ⟨W1, hW1⟩ : ∃ W1, W1 = (w.alloc (.cells (ncells tw) 91)).alloc (.cells (ncells (zeros L)) 5) := ⟨_, rfl⟩
  have B1 : Hid (Below w.heap.size w W1) := by rw [hW1]; exact ((Below.refl _ _).alloc (Nat.le_refl _) _).alloc (by simp) _
  have G6 : Hid (W1.heap[w.heap.size]? = some (.cells (ncells tw) 91 (0, 0))) := by show _ = _; rw [hW1, Below.heap_alloc _ _ _ (by simp)]; exact heap_alloc_new w _
  have G10 : Hid (W1.heap[w.heap.size + 1]? = some (.cells (ncells (zeros L)) 5 (0, 0))) := by show _ = _; rw [hW1]; exact heap_alloc2_new w _ _
  have HW1 := Lib.hid hW1
  have hL2 : (L : Int) ≤ 65536 := by omega
  clear hZ hne hs hk1 hk2 htw hc1 hc2 hx hbc hW1 hL hn
  go_enter Tryd.func51, Tryd.ntmps51
  go_wp2_with fail
  refine (IS.out _).mono ?_
  rintro e w' ⟨rfl, rfl⟩
  go_wp2_with fail
  rw [← HW1.out]
  clear mk
  go_upto_region 4 with fail
  go_cut [11] (fun s11 wx => ∃ g11, s11 = .pointer (some ⟨g11, 0, none⟩) ∧ w.heap.size + 1 < g11 ∧ wx.heap[w.heap.size + 1]? = some (.cells (ncells (zeros L)) 5 (0, 0)) ∧ wx.heap[g11]? = some (.cells (ncells M0) 91 (0, 0)) ∧ Below w.heap.size w wx)
  case first =>
    refine wp_region_held_drew (S := fun W => Below W1.heap.size W1 W) (by kernel_rfl) (Below.refl _ _).drew (fun hS => ?_)
    refine' wpAnyH_take (i := 0) ?h1x0p ?hsx0p ?hfx0p ?hrx0p ?hQx0p (Or.inl ⟨?hwx0p, ?hyx0p⟩) hS ?restx0p
    case h1x0p => (simp only [List.getElem?_toArray, List.getElem?_cons_zero]; rfl)
    case hsx0p => kernel_rfl
    case hfx0p => kernel_rfl
    case hrx0p => kernel_rfl
    case hQx0p => exact fun _ _ _ h => h
    case hwx0p => rfl
    case hyx0p =>
      intro W hW
      go_simp
      try with_reducible rfl
    simp only [Act.put, List.setIfInBounds_toArray, List.set_cons_succ, List.set_cons_zero]
    refine' wpAnyH_take (i := 1) ?h1x1p ?hsx1p ?hfx1p ?hrx1p ?hQx1p (Or.inl ⟨?hwx1p, ?hyx1p⟩) hS ?restx1p
    case h1x1p => (simp only [List.getElem?_toArray, List.getElem?_cons_succ, List.getElem?_cons_zero]; rfl)
    case hsx1p => kernel_rfl
    case hfx1p => kernel_rfl
    case hrx1p => kernel_rfl
    case hQx1p => exact fun _ _ _ h => h
    case hwx1p => rfl
    case hyx1p =>
      intro W hW
      go_simp
      try with_reducible rfl
    simp only [Act.put, List.setIfInBounds_toArray, List.set_cons_succ, List.set_cons_zero]
    refine' wpAnyH_take (i := 2) ?h1x2p ?hsx2p ?hfx2p ?hrx2p ?hQx2p (Or.inl ⟨?hwx2p, ?hyx2p⟩) hS ?restx2p
    case h1x2p => (simp only [List.getElem?_toArray, List.getElem?_cons_succ, List.getElem?_cons_zero]; rfl)
    case hsx2p => kernel_rfl
    case hfx2p => kernel_rfl
    case hrx2p => kernel_rfl
    case hQx2p => exact fun _ _ _ h => h
    case hwx2p => rfl
    case hyx2p =>
      intro W hW
      go_simp
      try with_reducible rfl
    simp only [Act.put, List.setIfInBounds_toArray, List.set_cons_succ, List.set_cons_zero]
    refine' wpAnyH_take (i := 3) ?h1x3p ?hsx3p ?hfx3p ?hrx3p ?hQx3p (Or.inl ⟨?hwx3p, ?hyx3p⟩) hS ?restx3p
    case h1x3p => (simp only [List.getElem?_toArray, List.getElem?_cons_succ, List.getElem?_cons_zero]; rfl)
    case hsx3p => kernel_rfl
    case hfx3p => kernel_rfl
    case hrx3p => kernel_rfl
    case hQx3p => exact fun _ _ _ h => h
    case hwx3p => rfl
    case hyx3p =>
      intro W hW
      have dd := ((B1.out.trans (hW.mono B1.out.size)).cell (p := ⟨g, 1, none⟩) LG.out).trans CX1.out
      go_simp
      try with_reducible rfl
    simp only [Act.put, List.setIfInBounds_toArray, List.set_cons_succ, List.set_cons_zero]
    refine' wpAnyH_take (i := 4) ?h1x4p ?hsx4p ?hfx4p ?hrx4p ?hQx4p (yieldsIf_load_at ?hwx4p 91 (.tmp 6) ?hopx4p w.heap.size 0 rfl (ncells tw) _ (fun W hW => range_row ((hW.block _ (blk_lt G6.out)).trans G6.out)) Tryd.underlying91 rfl ?hix4p) hS ?restx4p
    case h1x4p => (simp only [List.getElem?_toArray, List.getElem?_cons_succ, List.getElem?_cons_zero]; rfl)
    case hopx4p => rfl
    case hsx4p => kernel_rfl
    case hfx4p => kernel_rfl
    case hrx4p => kernel_rfl
    case hQx4p => exact fun _ _ _ h => h
    case hwx4p => rfl
    case hix4p => exact (i47 HTW.out.1)
    simp only [Act.put, List.setIfInBounds_toArray, List.set_cons_succ, List.set_cons_zero]
    refine wpAnyH_ready (rs := [5, 6]) (by kernel_rfl) (by simp) ?_
    refine' AllReadyH.cons ?hoc5p (fun K hK => ?stc5p) (AllReadyH.cons ?hoc6p (fun K hK => ?stc6p) AllReadyH.nil)
    case hoc5p => (simp only [List.getElem?_toArray, List.getElem?_cons_succ, List.getElem?_cons_zero]; rfl)
    case hoc6p => (simp only [List.getElem?_toArray, List.getElem?_cons_succ, List.getElem?_cons_zero]; rfl)
    case stc5p =>
      go_simp
      refine (TE.out _ (B1.out.trans (hS.mono B1.out.size))).mono ?_
      rintro e w3 ⟨rfl, hb⟩
      go_wp2_with fail
      refine hK.out _ _ (hS.trans (hb.mono hS.size)) (fun hHeld => ?_)
      clear hK K
      try simp only [Act.put, List.setIfInBounds_toArray, List.set_cons_succ, List.set_cons_zero]
      clear hS hb
      have hS := hHeld
      clear hHeld
      refine wpAnyH_ready (rs := [6]) (by kernel_rfl) (by simp) ?_
      refine' AllReadyH.cons ?hoc6pa (fun K hK => ?stc6pa) AllReadyH.nil
      case hoc6pa => (simp only [List.getElem?_toArray, List.getElem?_cons_succ, List.getElem?_cons_zero]; rfl)
      go_simp
      refine hK.out _ _ (hS.alloc hS.size _) (fun hHeld => ?_)
      clear hK K
      try simp only [Act.put, List.setIfInBounds_toArray, List.set_cons_succ, List.set_cons_zero]
      have hz := heap_alloc_new w3 (.cells Z 91)
      have hsz := hS.size
      clear hS
      have hS := hHeld
      clear hHeld
      refine wpAnyH_ready (rs := [7]) (by kernel_rfl) (by simp) ?_
      refine' AllReadyH.cons ?hoc7pa (fun K hK => ?stc7pa) AllReadyH.nil
      case hoc7pa => (simp only [List.getElem?_toArray, List.getElem?_cons_succ, List.getElem?_cons_zero]; rfl)
      refine step_store_row rfl 91 (.tmp 11) (.tmp 25) rfl _ (ncells M0) rfl rfl 91 _ hz (i47 MB.out.1) (ZL.out _ MB.out.1) (none_ _) ?_
      refine hK.out _ _ (hS.trans (below_row _ _ hsz)) (fun hHeld => ?_)
      clear hK K
      simp only [Act.put]
      refine wpAnyH_done (by kernel_rfl) ?_ _
      have r11 := setRow_heap _ _ _ (ncells M0) _ _ hz
      have l10 := blk_lt G10.out
      go_wp2_with fail
      go_meet
      exact ⟨_, rfl, by omega, (hHeld.block _ (blk_lt G10.out)).trans G10.out, r11, B1.out.trans (hHeld.mono B1.out.size)⟩
    case stc6p =>
      go_simp
      refine hK.out _ _ (hS.alloc hS.size _) (fun hHeld => ?_)
      clear hK K
      try simp only [Act.put, List.setIfInBounds_toArray, List.set_cons_succ, List.set_cons_zero]
      have hz := heap_alloc_new W1.drew (.cells Z 91)
      have hsz := hS.size
      clear hS
      have hS := hHeld
      clear hHeld
      refine wpAnyH_ready (rs := [5]) (by kernel_rfl) (by simp) ?_
      refine' AllReadyH.cons ?hoc5pb (fun K hK => ?stc5pb) AllReadyH.nil
      case hoc5pb => (simp only [List.getElem?_toArray, List.getElem?_cons_succ, List.getElem?_cons_zero]; rfl)
      go_simp
      refine (TE.out _ (B1.out.trans (hS.mono B1.out.size))).mono ?_
      rintro e w3 ⟨rfl, hb⟩
      go_wp2_with fail
      have hz3 := (hb.block _ (blk_lt hz)).trans hz
      refine hK.out _ _ (hS.trans (hb.mono hS.size)) (fun hHeld => ?_)
      clear hK K
      try simp only [Act.put, List.setIfInBounds_toArray, List.set_cons_succ, List.set_cons_zero]
      clear hz
      have hz := hz3
      clear hS hb
      have hS := hHeld
      clear hHeld
      refine wpAnyH_ready (rs := [7]) (by kernel_rfl) (by simp) ?_
      refine' AllReadyH.cons ?hoc7pb (fun K hK => ?stc7pb) AllReadyH.nil
      case hoc7pb => (simp only [List.getElem?_toArray, List.getElem?_cons_succ, List.getElem?_cons_zero]; rfl)
      refine step_store_row rfl 91 (.tmp 11) (.tmp 25) rfl _ (ncells M0) rfl rfl 91 _ hz (i47 MB.out.1) (ZL.out _ MB.out.1) (none_ _) ?_
      refine hK.out _ _ (hS.trans (below_row _ _ hsz)) (fun hHeld => ?_)
      clear hK K
      simp only [Act.put]
      refine wpAnyH_done (by kernel_rfl) ?_ _
      have r11 := setRow_heap _ _ _ (ncells M0) _ _ hz
      have l10 := blk_lt G10.out
      go_wp2_with fail
      go_meet
      exact ⟨_, rfl, by omega, (hHeld.block _ (blk_lt G10.out)).trans G10.out, r11, B1.out.trans (hHeld.mono B1.out.size)⟩
  case rest =>
  obtain ⟨g11, rfl, hg11, hr10, hr11, hb4⟩ := hcut
  have R10 := Lib.hid hr10
  have R11 := Lib.hid hr11
  have HB4 := Lib.hid hb4
  have HG11 := Lib.hid hg11
  clear hr10 hr11 hb4 hg11
  clear G6 G10 B1 TE HW1 CX1
  clear W1
  go_wp2_with fail
  go_loopw [12, 13] (fun vi _ wr => ∃ k : Nat, k ≤ n ∧ vi = .int .i64 ((16 * k : Nat) : Int) ∧ wr.heap[w.heap.size + 1]? = some (.cells (ncells (sct ff M0 b k ++ zeros (L - 16 * k))) 5 (0, 0)) ∧ wr.heap[g11]? = some (.cells (ncells (mskn M0 k)) 91 (0, 0)) ∧ Below w.heap.size w wr) (fun vi _ _ => L - (intOf vi).toNat)
  case atStart => exact ⟨0, by omega, rfl, R10.out, R11.out, HB4.out⟩
  case round =>
    clear R10 R11 HB4
    obtain ⟨k, hk, rfl, hg10, hg11, hbel⟩ := hrel
    obtain ⟨wo, rfl⟩ : ∃ wo : World, wo = wr := ⟨_, rfl⟩
    have G11L := Lib.hid (blk_lt hg11)
    have MK : Hid (Bts 16 (mskn M0 k)) := mskn_bts MB.out k
    have MN : Hid (mskn M0 (k + 1) = dbm (mskn M0 k)) := rfl
    have ON : Hid (sct ff M0 b (k + 1) = sct ff M0 b k ++ jn (ff (jn (blk b k) (mskn M0 k))) (mskn M0 k)) := rfl
    have OL := Lib.hid (sct_len ff M0 b k)
    have BK : Hid (Bts 16 (blk b k)) := blk_bts HBY.out k
    by_cases hlt : k < n
    · obtain ⟨a, ha⟩ : ∃ a, a = 16 * k := ⟨_, rfl⟩
      rw [← ha] at hg10 OL ⊢
      have hLn := HLn.out
      have haL : a + 16 ≤ L := by omega
      have hLi : (a : Int) < (L : Int) := by omega
      have hac : a < cap := by omega
      have b13 : Below wo.heap.size wo (wo.alloc (.cells Z 91)) := (Below.refl _ _).alloc (Nat.le_refl _) _
      have l0 : LS w (w.heap.size + 1) g11 wo.heap.size (sct ff M0 b k ++ zeros (L - a)) (mskn M0 k) (zeros 16) (wo.alloc (.cells Z 91)) :=
        ⟨(b13.block _ (blk_lt hg10)).trans hg10, (b13.block _ (blk_lt hg11)).trans hg11, by rw [← ZE.out]; exact heap_alloc_new wo _, hbel.trans (b13.mono hbel.size)⟩
      have hsrc : ∀ j, j < 16 → (wo.alloc (.cells Z 91)).drew.cell? ⟨bb, oo + a + j, none⟩ = some (.int .u8 (at_ (blk b k) j : Nat)) := fun j hj => by
        have e2 := HBC.out (a + j) (by have := HLb.out; omega)
        rw [← Nat.add_assoc] at e2
        rw [(l0.drew.2.2.2.cell (p := ⟨bb, oo + a + j, none⟩) LGB.out).trans e2, blk, tab_at _ _ _ hj, ha]
      have hrun := run_copy_row Tryd.prog (wo.alloc (.cells Z 91)).drew 49 49 3 5 wo.heap.size 0 16 16 ⟨bb, oo + a, none⟩ (L - a) (cap - a) (ncells (zeros 16)) 91 ((blk b k).map fun (n : Nat) => Value.int .u8 (n : Int)) Tryd.underlying49 info5s l0.2.2.1
        (by rw [List.length_map, BK.out.1]; simp only [Nat.min_def]; split <;> omega)
        (fun j u hj => by
          have hj16 : j < 16 := by
            rcases Nat.lt_or_ge j 16 with h | h
            · exact h
            · rw [List.getElem?_eq_none (by simp [BK.out.1]; omega)] at hj; cases hj
          rw [addr_add, hsrc j hj16, ← hj]
          simp [at_, List.getD, BK.out.1, hj16])
        (by rw [List.length_map, BK.out.1, nsize, zeros_len]; omega) (fun z hz => by obtain ⟨_, _, rfl⟩ := List.mem_map.1 hz; rfl)
      rw [List.length_map, splice_all (zeros 16) (blk b k) (by rw [zeros_len, BK.out.1]), BK.out.1] at hrun
      have HRUN := Lib.hid hrun
      have s1 := arr16_all wo.heap.size
      have s2 := sl_from bb oo L cap a (by omega) hac
      have hszle := hbel.size
      have hg11' := HG11.out
      have n1 : w.heap.size + 1 ≠ wo.heap.size := by have := blk_lt hg10; omega
      have n2 : g11 ≠ wo.heap.size := by have := G11L.out; omega
      have H1 := Lib.hid (l0.drew.st13 hszle n1 n2 (blk b k))
      have N1 := Lib.hid n1
      have N2 := Lib.hid n2
      have N3 := Lib.hid hszle
      have HA := Lib.hid ha
      have HAC := Lib.hid hac
      have HAL := Lib.hid haL
      clear hg10 hg11 hbel b13 l0 hsrc hrun hLn hszle hg11' n1 n2 ha hac haL hlt
      go_wp2_with fail
      go_still_tail 4, (by kernel_rfl)
      change wpList _ _ _ _ _ (World.alloc _ _).drew
      clear s2
      go_wp2_with (refine wpList_copy_run rfl (.tmp 32) (.tmp 35) rfl rfl rfl rfl HRUN.out ?_)
      clear HRUN
      generalize (wo.alloc (.cells Z 91)).drew.setRow wo.heap.size (ncells (blk b k)) = W6 at *
      generalize wo.heap.size = g13 at *
      refine wp_region_held_drew (S := fun W => W.heap[g11]? = some (.cells (ncells (mskn M0 k)) 91 (0, 0))) (by kernel_rfl) H1.out.drew.2.1 (fun hS => ?_)
      refine' wpAnyH_take (i := 0) ?h1x0q ?hsx0q ?hfx0q ?hrx0q ?hQx0q (Or.inl ⟨?hwx0q, ?hyx0q⟩) hS ?restx0q
      case h1x0q => (simp only [List.getElem?_toArray, List.getElem?_cons_zero]; rfl)
      case hsx0q => kernel_rfl
      case hfx0q => kernel_rfl
      case hrx0q => kernel_rfl
      case hQx0q => exact fun _ _ _ h => h
      case hwx0q => rfl
      case hyx0q =>
        intro W hW
        go_simp
        try with_reducible rfl
      simp only [Act.put, List.setIfInBounds_toArray, List.set_cons_succ, List.set_cons_zero]
      refine' wpAnyH_take (i := 2) ?h1x2q ?hsx2q ?hfx2q ?hrx2q ?hQx2q (yieldsIf_load_at ?hwx2q 91 (.tmp 11) ?hopx2q g11 0 rfl (ncells (mskn M0 k)) _ (fun W hW => range_row hW) Tryd.underlying91 rfl ?hix2q) hS ?restx2q
      case h1x2q => (simp only [List.getElem?_toArray, List.getElem?_cons_succ, List.getElem?_cons_zero]; rfl)
      case hopx2q => rfl
      case hsx2q => kernel_rfl
      case hfx2q => kernel_rfl
      case hrx2q => kernel_rfl
      case hQx2q => exact fun _ _ _ h => h
      case hwx2q => rfl
      case hix2q => exact (i47 MK.out.1)
      simp only [Act.put, List.setIfInBounds_toArray, List.set_cons_succ, List.set_cons_zero]
      refine' wpAnyH_take (i := 5) ?h1x5q ?hsx5q ?hfx5q ?hrx5q ?hQx5q (yieldsIf_load_at ?hwx5q 91 (.tmp 11) ?hopx5q g11 0 rfl (ncells (mskn M0 k)) _ (fun W hW => range_row hW) Tryd.underlying91 rfl ?hix5q) hS ?restx5q
      case h1x5q => (simp only [List.getElem?_toArray, List.getElem?_cons_succ, List.getElem?_cons_zero]; rfl)
      case hopx5q => rfl
      case hsx5q => kernel_rfl
      case hfx5q => kernel_rfl
      case hrx5q => kernel_rfl
      case hQx5q => exact fun _ _ _ h => h
      case hwx5q => rfl
      case hix5q => exact (i47 MK.out.1)
      simp only [Act.put, List.setIfInBounds_toArray, List.set_cons_succ, List.set_cons_zero]
      refine wpAnyH_ready (rs := [1]) (by kernel_rfl) (by simp) ?_
      refine' AllReadyH.cons ?hoc1q (fun K hK => ?stc1q) AllReadyH.nil
      case hoc1q => (simp only [List.getElem?_toArray, List.getElem?_cons_succ, List.getElem?_cons_zero]; rfl)
      rw [if_pos (by rfl)]
      refine wp_load_row 91 (.tmp 13) rfl g13 rfl 91 (ncells (blk b k)) (0, 0) _ H1.out.drew.2.2.1 Tryd.underlying91 rfl (i47 BK.out.1) ?_
      refine hK.out _ _ hS (fun hHeld => ?_)
      clear hK K
      try simp only [Act.put, List.setIfInBounds_toArray, List.set_cons_succ, List.set_cons_zero]
      clear hHeld
      have H1d := Lib.hid H1.out.drew
      clear H1
      have H1 := H1d
      clear H1d
      refine wpAnyH_ready (rs := [3]) (by kernel_rfl) (by simp) ?_
      refine' AllReadyH.cons ?hoc3q (fun K hK => ?stc3q) AllReadyH.nil
      case hoc3q => (simp only [List.getElem?_toArray, List.getElem?_cons_succ, List.getElem?_cons_zero]; rfl)
      go_simp
      refine (xjoined _ _ BK.out MK.out _).mono ?_
      rintro e w7 ⟨rfl, hb⟩
      have H2 := Lib.hid (H1.out.below hb)
      go_wp2_with fail
      refine hK.out _ _ H2.out.2.1 (fun hHeld => ?_)
      clear hK K
      try simp only [Act.put, List.setIfInBounds_toArray, List.set_cons_succ, List.set_cons_zero]
      clear hS hb
      have hS := hHeld
      clear hHeld
      refine wpAnyH_ready (rs := [4]) (by kernel_rfl) (by simp) ?_
      refine' AllReadyH.cons ?hoc4q (fun K hK => ?stc4q) AllReadyH.nil
      case hoc4q => (simp only [List.getElem?_toArray, List.getElem?_cons_succ, List.getElem?_cons_zero]; rfl)
      go_simp
      refine (WAY.out _ _ (jn_bts BK.out MK.out) H2.out.2.2.2).mono ?_
      rintro e w8 ⟨rfl, hb⟩
      have H3 := Lib.hid (H2.out.below hb)
      go_wp2_with fail
      refine hK.out _ _ H3.out.2.1 (fun hHeld => ?_)
      clear hK K
      try simp only [Act.put, List.setIfInBounds_toArray, List.set_cons_succ, List.set_cons_zero]
      clear hS hb
      have hS := hHeld
      clear hHeld
      refine wpAnyH_ready (rs := [6]) (by kernel_rfl) (by simp) ?_
      refine' AllReadyH.cons ?hoc6q (fun K hK => ?stc6q) AllReadyH.nil
      case hoc6q => (simp only [List.getElem?_toArray, List.getElem?_cons_succ, List.getElem?_cons_zero]; rfl)
      go_simp
      refine (xjoined _ _ (SB.out _ (jn_bts BK.out MK.out)) MK.out _).mono ?_
      rintro e w9 ⟨rfl, hb⟩
      have H4 := Lib.hid (H3.out.below hb)
      go_wp2_with fail
      refine hK.out _ _ H4.out.2.1 (fun hHeld => ?_)
      clear hK K
      try simp only [Act.put, List.setIfInBounds_toArray, List.set_cons_succ, List.set_cons_zero]
      clear hS hb
      have hS := hHeld
      clear hHeld
      have JB : Hid (Bts 16 (jn (ff (jn (blk b k) (mskn M0 k))) (mskn M0 k))) := jn_bts (SB.out _ (jn_bts BK.out MK.out)) MK.out
      generalize jn (ff (jn (blk b k) (mskn M0 k))) (mskn M0 k) = J at *
      refine wpAnyH_ready (rs := [7]) (by kernel_rfl) (by simp) ?_
      refine' AllReadyH.cons ?hoc7q (fun K hK => ?stc7q) AllReadyH.nil
      case hoc7q => (simp only [List.getElem?_toArray, List.getElem?_cons_succ, List.getElem?_cons_zero]; rfl)
      refine step_store_row rfl 91 (.tmp 13) (.tmp 43) rfl g13 (ncells J) rfl rfl 91 _ H4.out.2.2.1 (i47 JB.out.1) (ns_eq BK.out.1 JB.out.1) (none_ _) ?_
      have H5 := Lib.hid (H4.out.st13 N3.out N1.out N2.out J)
      refine hK.out _ _ H5.out.2.1 (fun hHeld => ?_)
      clear hK K
      simp only [Act.put]
      refine wpAnyH_done (by kernel_rfl) ?_ _
      clear hHeld hS H1 H2 H3 H4
      generalize w9.setRow g13 (ncells J) = W10 at *
      clear w9 w8 w7
      clear W6
      have hl10 : (sct ff M0 b k ++ zeros (L - a)).length = L := by rw [List.length_append, OL.out, zeros_len]; have := HAL.out; omega
      have hrun := run_copy_row Tryd.prog W10.drew 49 49 3 5 (w.heap.size + 1) (0 + a) (L - a) (L - a) ⟨g13, 0, none⟩ 16 16 (ncells (sct ff M0 b k ++ zeros (L - a))) 5 (J.map fun (n : Nat) => Value.int .u8 (n : Int)) Tryd.underlying49 info5s H5.out.drew.1
        (by rw [List.length_map, JB.out.1]; have := HAL.out; simp only [Nat.min_def]; split <;> omega)
        (fun j u hj => by
          have hj16 : j < 16 := by
            rcases Nat.lt_or_ge j 16 with h | h
            · exact h
            · rw [List.getElem?_eq_none (by simp [JB.out.1]; omega)] at hj; cases hj
          rw [addr_add, Nat.zero_add, cell_at H5.out.drew.2.2.1 JB.out.1 hj16, ← hj]
          simp [at_, List.getD, JB.out.1, hj16])
        (by rw [List.length_map, JB.out.1, nsize, hl10]; have := HAL.out; omega) (fun z hz => by obtain ⟨_, _, rfl⟩ := List.mem_map.1 hz; rfl)
      have spl := splice_end (sct ff M0 b k) J (L - a) (by rw [JB.out.1]; have := HAL.out; omega)
      rw [OL.out] at spl
      rw [List.length_map, Nat.zero_add, spl, JB.out.1, ← ON.out, Nat.sub_sub] at hrun
      have HRUN := Lib.hid hrun
      have s1 := arr16_all g13
      have s2 := sl_from (w.heap.size + 1) 0 L L a (by have := HAL.out; omega) (by have := HAL.out; omega)
      rw [Nat.zero_add] at s2
      have H6 := Lib.hid (H5.out.drew.st10 (by omega) (by have := HG11.out; omega) (Ne.symm N1.out) (sct ff M0 b (k + 1) ++ zeros (L - (a + 16))))
      clear hrun spl hl10 H5 ON
      go_wp2_with fail
      go_still_tail 4, (by kernel_rfl)
      change wpList _ _ _ _ _ W10.drew
      clear s1 s2
      go_wp2_with (first
        | (refine wpList_copy_run rfl (.tmp 46) (.tmp 47) rfl rfl rfl rfl HRUN.out ?_)
        | (refine wpList_load_row rfl 91 (.tmp 11) rfl g11 rfl 91 (ncells (mskn M0 k)) (0, 0) _ H6.out.2.1 Tryd.underlying91 rfl (i47 MK.out.1) ?_))
      refine (doubleC _ MK.out _).mono ?_
      rintro e w11 ⟨rfl, hb⟩
      have H7 := Lib.hid (H6.out.below hb)
      clear hb H6 HRUN
      have DB : Hid (Bts 16 (dbm (mskn M0 k))) := dbm_bts MK.out
      go_wp2_with (first
        | (refine wpList_store_row rfl 91 (.tmp 11) (.tmp 50) rfl g11 (ncells (dbm (mskn M0 k))) rfl rfl 91 _ H7.out.2.1 (i47 DB.out.1) (ns_eq MK.out.1 DB.out.1) (none_ _) ?_))
      have H8 := Lib.hid (H7.out.st11 (by have := HG11.out; omega) (by have := HG11.out; omega) (Ne.symm N2.out) (dbm (mskn M0 k)))
      go_roundw
      case rel =>
        refine ⟨k + 1, by have := HA.out; have := HAL.out; have := HLn.out; omega, ?_, ?_, ?_, H8.out.2.2.2⟩
        · congr 1; have := HA.out; omega
        · rw [show 16 * (k + 1) = a + 16 by have := HA.out; omega]; exact H8.out.1
        · rw [MN.out]; exact H8.out.2.1
      case measure => simp [intOf]; omega
    · obtain rfl : k = n := by omega
      have e0 : L - 16 * k = 0 := by have := HLn.out; omega
      rw [e0, show zeros 0 = [] from rfl, List.append_nil] at hg10
      have hLi : ¬ (((16 * k : Nat) : Int) < (L : Int)) := by have := HLn.out; omega
      obtain ⟨a, ha⟩ : ∃ a, a = 16 * k := ⟨_, rfl⟩
      rw [← ha] at hLi ⊢
      have HG := Lib.hid hg10
      have HB := Lib.hid hbel
      clear hg10 hg11 hbel e0 ha
      go_wp2_with fail
      go_ret2
      exact ⟨w.heap.size + 1, rfl, by omega, HG.out, HB.out⟩
end Go.Proofs.YtpkeofioobmmoaaDoor.ae
