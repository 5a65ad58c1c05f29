/-
  For every slot and every slice of bytes the law SlotBytes of package casematelaw20 returns true, and they read afterwards as before: the bytes of each slot, and the slot that any bytes are, is told. Condition: none.
-/
import Derived.Test.YtplffbpnjnbolaaSlG
namespace Go.Proofs.Ytplffbpnjnbolaa.slotBytes
open Go.ChangeShapes Go.WideShapes Go.ChangeAt Go.RowKit
theorem walk_great (X : Array Value) (x : Option Addr) (l cap : Nat) (hl : l ≤ 9223372036854775807) (hg : 1000 < l) (w : World) : Calls Try.prog 7 #[.agg X, .slice x l cap] w fun e w' => e = .returned (.bool true) ∧ Below w.heap.size w w' := by
  have hg' : (1000 : Int) < l := by omega
  go_enter Try.func7, Try.ntmps7
  go_wp2_with fail
  refine (alive20 _).mono ?_
  rintro e w' ⟨rfl, hb⟩
  have HB : Hid (Below w.heap.size w w') := ((Below.refl _ _).alloc (Nat.le_refl _) _).trans (hb.mono (by simp))
  go_wp2_with fail
  go_ret
  exact ⟨rfl, HB.out⟩
theorem mk512 (w : World) : (Instr.makeSlice 30 (.int .i64 512) (.int .i64 512)).run Try.prog w = .ok (.slice (some ⟨w.heap.size, 0, none⟩) 512 512) (w.alloc (.cells (bcells (zs 512)) 5)) := mkN 512 (by decide) w
set_option maxRecDepth 100000 in
set_option maxHeartbeats 8000000 in
theorem walk_small (xs : List Int) (hx : Byt xs) (lx : xs.length = 104) (v : Value) (bs : List Int) (hl : bs.length ≤ 1000) (w : World) (h : Sees w v bs) :
    Calls Try.prog 7 #[.agg (bcells xs), v] w fun e w' => e = .returned (.bool true) ∧ Below w.heap.size w w' := by
  obtain ⟨x, cap, rfl, _⟩ := h.form
  have hl' : (bs.length : Int) ≤ 1000 := by omega
  have hz := z104
  have WX : Hid (∀ W, Calls Try.prog 26 #[.agg (bcells xs)] W (NewP W 512 (sW xs))) := fun W => slotW xs hx lx W
  have AX : Hid (∀ W, Calls Try.prog 28 #[.agg (bcells xs)] W (OwnP W xs)) := fun W => asS xs hx lx W
  have DX : Hid (∀ v W, Sees W v xs → Calls Try.prog 27 #[v] W (OwnP W (sW xs))) := fun v W h => refW v xs lx W h
  have AB : Hid (∀ W, Calls Try.prog 28 #[.agg (bcells (sRv bs))] W (OwnP W (sRv bs))) := fun W => asS _ (sRv_byt h.1) (sRv_len _) W
  have RB : Hid (∀ v W, Sees W v bs → Calls Try.prog 24 #[v] W fun e w' => e = .returned (.tuple #[.agg (bcells (sRv bs)), .int .i64 (sRe bs)]) ∧ Below W.heap.size W w') := fun v W h => slotR v _ W h
  have DB : Hid (∀ v W, Sees W v bs → Calls Try.prog 25 #[v] W fun e w' => ∃ v, e = .returned (.tuple #[v, .int .i64 (sRe bs)]) ∧ Sees w' v (sRv bs) ∧ Below W.heap.size W w') := fun v W h => refR v _ W h
  have BL := Lib.hid blank
  have MK := Lib.hid mk512
  have IZ := Lib.hid (i61 (zs_len 104))
  have IX := Lib.hid (i61 lx)
  have IB := Lib.hid (i61 (sRv_len bs))
  have OB := Lib.hid (one_cells (sRv bs))
  have ZB := Lib.hid (bcells_sz (show (zs 104).length = (sRv bs).length by rw [zs_len, sRv_len]))
  have T1 : Hid (((strOfNums (sW xs)).toList == (strOfNums (sW xs)).toList) = true) := beq_self_eq_true _
  have T2 : Hid (((strOfNums (sRv bs)).toList == (strOfNums (sRv bs)).toList) = true) := beq_self_eq_true _
  have T3 : Hid (((strOfNums (zs 512)).toList == (strOfNums (zs 512)).toList) = true) := beq_self_eq_true _
  have SB := Lib.hid h
  have N5 : Hid (∀ W : World, Sees (W.alloc (.cells (bcells (zs 512)) 5)) (.slice (some ⟨W.heap.size, 0, none⟩) 512 512) (zs 512)) := fun W => sees_new W _ _ rfl (zs_byt _) (by rw [zs_len]; decide) _ rfl _ (zs_len _).symm
  generalize sW xs = XS at *
  generalize bcells xs = CX at *
  generalize bcells (sRv bs) = CB at *
  generalize sRv bs = YB at *
  generalize bcells (zs 104) = Z at *
  generalize bcells (zs 512) = Z5 at *
  generalize zs 512 = ZL at *
  generalize sRe bs = E at *
  obtain ⟨W0, hW0⟩ : ∃ W0, W0 = w.alloc (.cells CX 61) := ⟨_, rfl⟩
  have HB : Hid (Below w.heap.size w W0) := by rw [hW0]; exact (Below.refl _ _).alloc (Nat.le_refl _) _
  have G0 : Hid (W0.heap[w.heap.size]? = some (.cells CX 61 (0, 0))) := by show _ = _; rw [hW0]; exact heap_alloc_new w _
  have HW0 := Lib.hid hW0
  clear hW0 hx lx h hl
  go_enter Try.func7, Try.ntmps7
  go_wp2_with fail
  rw [← HW0.out]
  refine (RB.out _ _ (SB.out.below HB.out)).mono ?_
  rintro e w1 ⟨rfl, hb⟩
  have hal : Below w1.heap.size w1 (w1.alloc (.cells CB 61)) := (Below.refl _ _).alloc (Nat.le_refl _) _
  have hb2 : Below W0.heap.size W0 (w1.alloc (.cells CB 61)) := hb.trans (hal.mono hb.size)
  have B3 := Lib.hid (HB.out.trans (hb2.mono HB.out.size))
  have G03 := Lib.hid ((hb2.block _ (blk_lt G0.out)).trans G0.out)
  have SB3 := Lib.hid (SB.out.below B3.out)
  have A2 := Lib.hid (heap_alloc_new w1 (.cells Z 61))
  have R2 := Lib.hid (alloc_setRowT w1 Z CB 61 _ rfl)
  have G23 := Lib.hid (heap_alloc_new w1 (.cells CB 61))
  clear hb hal hb2 G0 HB SB HW0
  go_wp2_with (refine wpList_store_row rfl 61 (.tmp 5) (.tmp 16) rfl w1.heap.size CB rfl rfl 61 Z A2.out IB.out ZB.out OB.out ?_; rw [R2.out])
  generalize w1.alloc (.cells CB 61) = w2 at *
  generalize w1.heap.size = g2 at *
  refine (DB.out _ _ SB3.out).mono ?_
  rintro e w5 ⟨u, rfl, hu, hb⟩
  have GB := Lib.hid (B3.out.trans (hb.mono B3.out.size))
  have GX := Lib.hid ((hb.block _ (blk_lt G03.out)).trans G03.out)
  have GC := Lib.hid ((hb.block _ (blk_lt G23.out)).trans G23.out)
  have SU := Lib.hid hu
  obtain ⟨ux, uc, rfl, _⟩ := hu.form
  clear hb hu B3 G03 G23 SB3 A2 R2 DB RB hz
  go_wp2_with fail
  refine wp_region_held_drew (S := fun W => Below w5.heap.size w5 W) (by kernel_rfl) (Below.refl _ _).drew (fun hS => ?_)
  refine wpAnyH_ready (rs := [0]) (by kernel_rfl) (by simp) ?_
  refine' AllReadyH.cons ?hoc0a (fun K hK => ?stc0a) AllReadyH.nil
  case hoc0a => (simp only [List.getElem?_toArray, List.getElem?_cons_zero]; rfl)
  go_simp
  refine (alive20 _).mono ?_
  rintro e wka1 ⟨rfl, hb⟩
  go_wp2_with fail
  refine hK.out _ _ (hS.trans (hb.mono hS.size)) (fun hHeld => ?_)
  clear hK K
  try simp only [Act.put, List.setIfInBounds_toArray, List.set_cons_succ, List.set_cons_zero]
  have GB := Lib.hid (GB.out.trans (hHeld.mono GB.out.size))
  have GX := Lib.hid ((hHeld.block _ (blk_lt GX.out)).trans GX.out)
  have GC := Lib.hid ((hHeld.block _ (blk_lt GC.out)).trans GC.out)
  have SU := Lib.hid (SU.out.below hHeld)
  refine wpAnyH_mono (S' := fun W => Below wka1.heap.size wka1 W) (fun _ h => hHeld.trans (h.mono hHeld.size)) _ _ _ _ ?_
  clear hS hb hHeld
  have hS : Below wka1.heap.size wka1 wka1 := Below.refl _ _
  refine' wpAnyH_take (i := 1) ?h1x1a ?hsx1a ?hfx1a ?hrx1a ?hQx1a (Or.inl ⟨?hwx1a, ?hyx1a⟩) hS ?restx1a
  case h1x1a => (simp only [List.getElem?_toArray, List.getElem?_cons_succ, List.getElem?_cons_zero]; rfl)
  case hsx1a => kernel_rfl
  case hfx1a => kernel_rfl
  case hrx1a => kernel_rfl
  case hQx1a => exact fun _ _ _ h => h
  case hwx1a => rfl
  case hyx1a =>
    intro W hW
    go_simp
    try with_reducible rfl
  simp only [Act.put, List.setIfInBounds_toArray, List.set_cons_succ, List.set_cons_zero]
  refine' wpAnyH_take (i := 2) ?h1x2a ?hsx2a ?hfx2a ?hrx2a ?hQx2a (yieldsIf_load_at ?hwx2a 61 (.tmp 2) ?hopx2a w.heap.size 0 rfl CX _ (fun W hW => range_row ((hW.block _ (blk_lt GX.out)).trans GX.out)) Try.underlying61 rfl ?hix2a) hS ?restx2a
  case h1x2a => (simp only [List.getElem?_toArray, List.getElem?_cons_succ, List.getElem?_cons_zero]; rfl)
  case hopx2a => rfl
  case hsx2a => kernel_rfl
  case hfx2a => kernel_rfl
  case hrx2a => kernel_rfl
  case hQx2a => exact fun _ _ _ h => h
  case hwx2a => rfl
  case hix2a => exact IX.out
  simp only [Act.put, List.setIfInBounds_toArray, List.set_cons_succ, List.set_cons_zero]
  refine' wpAnyH_take (i := 5) ?h1x5a ?hsx5a ?hfx5a ?hrx5a ?hQx5a (yieldsIf_load_at ?hwx5a 61 (.tmp 2) ?hopx5a w.heap.size 0 rfl CX _ (fun W hW => range_row ((hW.block _ (blk_lt GX.out)).trans GX.out)) Try.underlying61 rfl ?hix5a) hS ?restx5a
  case h1x5a => (simp only [List.getElem?_toArray, List.getElem?_cons_succ, List.getElem?_cons_zero]; rfl)
  case hopx5a => rfl
  case hsx5a => kernel_rfl
  case hfx5a => kernel_rfl
  case hrx5a => kernel_rfl
  case hQx5a => exact fun _ _ _ h => h
  case hwx5a => rfl
  case hix5a => exact IX.out
  simp only [Act.put, List.setIfInBounds_toArray, List.set_cons_succ, List.set_cons_zero]
  refine wpAnyH_ready (rs := [3]) (by kernel_rfl) (by simp) ?_
  refine' AllReadyH.cons ?hoc3a (fun K hK => ?stc3a) AllReadyH.nil
  case hoc3a => (simp only [List.getElem?_toArray, List.getElem?_cons_succ, List.getElem?_cons_zero]; rfl)
  go_simp
  refine (WX.out _).mono ?_
  rintro e wka2 ⟨gx, rfl, hs, hb, _⟩
  go_wp2_with fail
  refine hK.out _ _ (hS.trans (hb.mono hS.size)) (fun hHeld => ?_)
  clear hK K
  try simp only [Act.put, List.setIfInBounds_toArray, List.set_cons_succ, List.set_cons_zero]
  have SX := Lib.hid hs
  clear hs
  have GB := Lib.hid (GB.out.trans (hHeld.mono GB.out.size))
  have GX := Lib.hid ((hHeld.block _ (blk_lt GX.out)).trans GX.out)
  have GC := Lib.hid ((hHeld.block _ (blk_lt GC.out)).trans GC.out)
  have SU := Lib.hid (SU.out.below hHeld)
  refine wpAnyH_mono (S' := fun W => Below wka2.heap.size wka2 W) (fun _ h => hHeld.trans (h.mono hHeld.size)) _ _ _ _ ?_
  clear hS hb hHeld
  have hS : Below wka2.heap.size wka2 wka2 := Below.refl _ _
  refine' wpAnyH_take (i := 4) ?h1x4a ?hsx4a ?hfx4a ?hrx4a ?hQx4a (Or.inl ⟨?hwx4a, ?hyx4a⟩) hS ?restx4a
  case h1x4a => (simp only [List.getElem?_toArray, List.getElem?_cons_succ, List.getElem?_cons_zero]; rfl)
  case hsx4a => kernel_rfl
  case hfx4a => kernel_rfl
  case hrx4a => kernel_rfl
  case hQx4a => exact fun _ _ _ h => h
  case hwx4a => rfl
  case hyx4a =>
    intro W hW
    have dd := (SX.out.below hW).str
    go_simp
    try with_reducible rfl
  simp only [Act.put, List.setIfInBounds_toArray, List.set_cons_succ, List.set_cons_zero]
  refine wpAnyH_ready (rs := [6]) (by kernel_rfl) (by simp) ?_
  refine' AllReadyH.cons ?hoc6a (fun K hK => ?stc6a) AllReadyH.nil
  case hoc6a => (simp only [List.getElem?_toArray, List.getElem?_cons_succ, List.getElem?_cons_zero]; rfl)
  go_simp
  refine (AX.out _).mono ?_
  rintro e wka3 ⟨ax, ac, rfl, ho, hb⟩
  go_wp2_with fail
  refine hK.out _ _ (hS.trans (hb.mono hS.size)) (fun hHeld => ?_)
  clear hK K
  try simp only [Act.put, List.setIfInBounds_toArray, List.set_cons_succ, List.set_cons_zero]
  have SA := Lib.hid ho.sees
  clear ho
  have GB := Lib.hid (GB.out.trans (hHeld.mono GB.out.size))
  have GX := Lib.hid ((hHeld.block _ (blk_lt GX.out)).trans GX.out)
  have GC := Lib.hid ((hHeld.block _ (blk_lt GC.out)).trans GC.out)
  have SU := Lib.hid (SU.out.below hHeld)
  have SX := Lib.hid (SX.out.below hHeld)
  refine wpAnyH_mono (S' := fun W => Below wka3.heap.size wka3 W) (fun _ h => hHeld.trans (h.mono hHeld.size)) _ _ _ _ ?_
  clear hS hb hHeld
  have hS : Below wka3.heap.size wka3 wka3 := Below.refl _ _
  refine wpAnyH_ready (rs := [7]) (by kernel_rfl) (by simp) ?_
  refine' AllReadyH.cons ?hoc7a (fun K hK => ?stc7a) AllReadyH.nil
  case hoc7a => (simp only [List.getElem?_toArray, List.getElem?_cons_succ, List.getElem?_cons_zero]; rfl)
  go_simp
  refine (DX.out _ _ (SA.out.below hS)).mono ?_
  rintro e wka4 ⟨bx, bc, rfl, ho, hb⟩
  go_wp2_with fail
  refine hK.out _ _ (hS.trans (hb.mono hS.size)) (fun hHeld => ?_)
  clear hK K
  try simp only [Act.put, List.setIfInBounds_toArray, List.set_cons_succ, List.set_cons_zero]
  have SD := Lib.hid ho.sees
  clear ho
  have GB := Lib.hid (GB.out.trans (hHeld.mono GB.out.size))
  have GX := Lib.hid ((hHeld.block _ (blk_lt GX.out)).trans GX.out)
  have GC := Lib.hid ((hHeld.block _ (blk_lt GC.out)).trans GC.out)
  have SU := Lib.hid (SU.out.below hHeld)
  have SX := Lib.hid (SX.out.below hHeld)
  have SA := Lib.hid (SA.out.below hHeld)
  refine wpAnyH_mono (S' := fun W => Below wka4.heap.size wka4 W) (fun _ h => hHeld.trans (h.mono hHeld.size)) _ _ _ _ ?_
  clear hS hb hHeld
  have hS : Below wka4.heap.size wka4 wka4 := Below.refl _ _
  refine' wpAnyH_take (i := 8) ?h1x8a ?hsx8a ?hfx8a ?hrx8a ?hQx8a (Or.inl ⟨?hwx8a, ?hyx8a⟩) hS ?restx8a
  case h1x8a => (simp only [List.getElem?_toArray, List.getElem?_cons_succ, List.getElem?_cons_zero]; rfl)
  case hsx8a => kernel_rfl
  case hfx8a => kernel_rfl
  case hrx8a => kernel_rfl
  case hQx8a => exact fun _ _ _ h => h
  case hwx8a => rfl
  case hyx8a =>
    intro W hW
    have dd := (SD.out.below hW).str
    go_simp
    try with_reducible rfl
  simp only [Act.put, List.setIfInBounds_toArray, List.set_cons_succ, List.set_cons_zero]
  refine' wpAnyH_take (i := 9) ?h1x9a ?hsx9a ?hfx9a ?hrx9a ?hQx9a (Or.inl ⟨?hwx9a, ?hyx9a⟩) hS ?restx9a
  case h1x9a => (simp only [List.getElem?_toArray, List.getElem?_cons_succ, List.getElem?_cons_zero]; rfl)
  case hsx9a => kernel_rfl
  case hfx9a => kernel_rfl
  case hrx9a => kernel_rfl
  case hQx9a => exact fun _ _ _ h => h
  case hwx9a => rfl
  case hyx9a =>
    intro W hW
    have dd := T1.out
    go_simp
    try with_reducible rfl
  simp only [Act.put, List.setIfInBounds_toArray, List.set_cons_succ, List.set_cons_zero]
  refine' wpAnyH_take (i := 10) ?h1x10a ?hsx10a ?hfx10a ?hrx10a ?hQx10a (Or.inl ⟨?hwx10a, ?hyx10a⟩) hS ?restx10a
  case h1x10a => (simp only [List.getElem?_toArray, List.getElem?_cons_succ, List.getElem?_cons_zero]; rfl)
  case hsx10a => kernel_rfl
  case hfx10a => kernel_rfl
  case hrx10a => kernel_rfl
  case hQx10a => exact fun _ _ _ h => h
  case hwx10a => rfl
  case hyx10a =>
    intro W hW
    go_simp
    try with_reducible rfl
  simp only [Act.put, List.setIfInBounds_toArray, List.set_cons_succ, List.set_cons_zero]
  refine' wpAnyH_take (i := 11) ?h1x11a ?hsx11a ?hfx11a ?hrx11a ?hQx11a (Or.inl ⟨?hwx11a, ?hyx11a⟩) hS ?restx11a
  case h1x11a => (simp only [List.getElem?_toArray, List.getElem?_cons_succ, List.getElem?_cons_zero]; rfl)
  case hsx11a => kernel_rfl
  case hfx11a => kernel_rfl
  case hrx11a => kernel_rfl
  case hQx11a => exact fun _ _ _ h => h
  case hwx11a => rfl
  case hyx11a =>
    intro W hW
    go_simp
    try with_reducible rfl
  simp only [Act.put, List.setIfInBounds_toArray, List.set_cons_succ, List.set_cons_zero]
  refine' wpAnyH_take (i := 12) ?h1x12a ?hsx12a ?hfx12a ?hrx12a ?hQx12a (yieldsIf_load_at ?hwx12a 61 (.tmp 5) ?hopx12a g2 0 rfl CB _ (fun W hW => range_row ((hW.block _ (blk_lt GC.out)).trans GC.out)) Try.underlying61 rfl ?hix12a) hS ?restx12a
  case h1x12a => (simp only [List.getElem?_toArray, List.getElem?_cons_succ, List.getElem?_cons_zero]; rfl)
  case hopx12a => rfl
  case hsx12a => kernel_rfl
  case hfx12a => kernel_rfl
  case hrx12a => kernel_rfl
  case hQx12a => exact fun _ _ _ h => h
  case hwx12a => rfl
  case hix12a => exact IB.out
  simp only [Act.put, List.setIfInBounds_toArray, List.set_cons_succ, List.set_cons_zero]
  refine' wpAnyH_take (i := 15) ?h1x15a ?hsx15a ?hfx15a ?hrx15a ?hQx15a (Or.inl ⟨?hwx15a, ?hyx15a⟩) hS ?restx15a
  case h1x15a => (simp only [List.getElem?_toArray, List.getElem?_cons_succ, List.getElem?_cons_zero]; rfl)
  case hsx15a => kernel_rfl
  case hfx15a => kernel_rfl
  case hrx15a => kernel_rfl
  case hQx15a => exact fun _ _ _ h => h
  case hwx15a => rfl
  case hyx15a =>
    intro W hW
    go_simp
    try with_reducible rfl
  simp only [Act.put, List.setIfInBounds_toArray, List.set_cons_succ, List.set_cons_zero]
  refine' wpAnyH_take (i := 16) ?h1x16a ?hsx16a ?hfx16a ?hrx16a ?hQx16a (Or.inl ⟨?hwx16a, ?hyx16a⟩) hS ?restx16a
  case h1x16a => (simp only [List.getElem?_toArray, List.getElem?_cons_succ, List.getElem?_cons_zero]; rfl)
  case hsx16a => kernel_rfl
  case hfx16a => kernel_rfl
  case hrx16a => kernel_rfl
  case hQx16a => exact fun _ _ _ h => h
  case hwx16a => rfl
  case hyx16a =>
    intro W hW
    have dd := (SU.out.below hW).str
    go_simp
    try with_reducible rfl
  simp only [Act.put, List.setIfInBounds_toArray, List.set_cons_succ, List.set_cons_zero]
  refine wpAnyH_ready (rs := [13]) (by kernel_rfl) (by simp) ?_
  refine' AllReadyH.cons ?hoc13a (fun K hK => ?stc13a) AllReadyH.nil
  case hoc13a => (simp only [List.getElem?_toArray, List.getElem?_cons_succ, List.getElem?_cons_zero]; rfl)
  go_simp
  refine (AB.out _).mono ?_
  rintro e wka5 ⟨cx, cc, rfl, ho, hb⟩
  go_wp2_with fail
  refine hK.out _ _ (hS.trans (hb.mono hS.size)) (fun hHeld => ?_)
  clear hK K
  try simp only [Act.put, List.setIfInBounds_toArray, List.set_cons_succ, List.set_cons_zero]
  have SC := Lib.hid ho.sees
  clear ho
  have GB := Lib.hid (GB.out.trans (hHeld.mono GB.out.size))
  have GX := Lib.hid ((hHeld.block _ (blk_lt GX.out)).trans GX.out)
  have GC := Lib.hid ((hHeld.block _ (blk_lt GC.out)).trans GC.out)
  have SU := Lib.hid (SU.out.below hHeld)
  have SX := Lib.hid (SX.out.below hHeld)
  have SA := Lib.hid (SA.out.below hHeld)
  have SD := Lib.hid (SD.out.below hHeld)
  refine wpAnyH_mono (S' := fun W => Below wka5.heap.size wka5 W) (fun _ h => hHeld.trans (h.mono hHeld.size)) _ _ _ _ ?_
  clear hS hb hHeld
  have hS : Below wka5.heap.size wka5 wka5 := Below.refl _ _
  refine' wpAnyH_take (i := 14) ?h1x14a ?hsx14a ?hfx14a ?hrx14a ?hQx14a (Or.inl ⟨?hwx14a, ?hyx14a⟩) hS ?restx14a
  case h1x14a => (simp only [List.getElem?_toArray, List.getElem?_cons_succ, List.getElem?_cons_zero]; rfl)
  case hsx14a => kernel_rfl
  case hfx14a => kernel_rfl
  case hrx14a => kernel_rfl
  case hQx14a => exact fun _ _ _ h => h
  case hwx14a => rfl
  case hyx14a =>
    intro W hW
    have dd := (SC.out.below hW).str
    go_simp
    try with_reducible rfl
  simp only [Act.put, List.setIfInBounds_toArray, List.set_cons_succ, List.set_cons_zero]
  refine' wpAnyH_take (i := 17) ?h1x17a ?hsx17a ?hfx17a ?hrx17a ?hQx17a (Or.inl ⟨?hwx17a, ?hyx17a⟩) hS ?restx17a
  case h1x17a => (simp only [List.getElem?_toArray, List.getElem?_cons_succ, List.getElem?_cons_zero]; rfl)
  case hsx17a => kernel_rfl
  case hfx17a => kernel_rfl
  case hrx17a => kernel_rfl
  case hQx17a => exact fun _ _ _ h => h
  case hwx17a => rfl
  case hyx17a =>
    intro W hW
    have dd := T2.out
    go_simp
    try with_reducible rfl
  simp only [Act.put, List.setIfInBounds_toArray, List.set_cons_succ, List.set_cons_zero]
  refine' wpAnyH_take (i := 18) ?h1x18a ?hsx18a ?hfx18a ?hrx18a ?hQx18a (Or.inl ⟨?hwx18a, ?hyx18a⟩) hS ?restx18a
  case h1x18a => (simp only [List.getElem?_toArray, List.getElem?_cons_succ, List.getElem?_cons_zero]; rfl)
  case hsx18a => kernel_rfl
  case hfx18a => kernel_rfl
  case hrx18a => kernel_rfl
  case hQx18a => exact fun _ _ _ h => h
  case hwx18a => rfl
  case hyx18a =>
    intro W hW
    go_simp
    try with_reducible rfl
  simp only [Act.put, List.setIfInBounds_toArray, List.set_cons_succ, List.set_cons_zero]
  refine' wpAnyH_take (i := 19) ?h1x19a ?hsx19a ?hfx19a ?hrx19a ?hQx19a (Or.inl ⟨?hwx19a, ?hyx19a⟩) hS ?restx19a
  case h1x19a => (simp only [List.getElem?_toArray, List.getElem?_cons_succ, List.getElem?_cons_zero]; rfl)
  case hsx19a => kernel_rfl
  case hfx19a => kernel_rfl
  case hrx19a => kernel_rfl
  case hQx19a => exact fun _ _ _ h => h
  case hwx19a => rfl
  case hyx19a =>
    intro W hW
    go_simp
    try with_reducible rfl
  simp only [Act.put, List.setIfInBounds_toArray, List.set_cons_succ, List.set_cons_zero]
  refine' wpAnyH_take (i := 20) ?h1x20a ?hsx20a ?hfx20a ?hrx20a ?hQx20a (Or.inl ⟨?hwx20a, ?hyx20a⟩) hS ?restx20a
  case h1x20a => (simp only [List.getElem?_toArray, List.getElem?_cons_succ, List.getElem?_cons_zero]; rfl)
  case hsx20a => kernel_rfl
  case hfx20a => kernel_rfl
  case hrx20a => kernel_rfl
  case hQx20a => exact fun _ _ _ h => h
  case hwx20a => rfl
  case hyx20a =>
    intro W hW
    go_simp
    try with_reducible rfl
  simp only [Act.put, List.setIfInBounds_toArray, List.set_cons_succ, List.set_cons_zero]
  refine' wpAnyH_take (i := 21) ?h1x21a ?hsx21a ?hfx21a ?hrx21a ?hQx21a (Or.inl ⟨?hwx21a, ?hyx21a⟩) hS ?restx21a
  case h1x21a => (simp only [List.getElem?_toArray, List.getElem?_cons_succ, List.getElem?_cons_zero]; rfl)
  case hsx21a => kernel_rfl
  case hfx21a => kernel_rfl
  case hrx21a => kernel_rfl
  case hQx21a => exact fun _ _ _ h => h
  case hwx21a => rfl
  case hyx21a =>
    intro W hW
    go_simp
    try with_reducible rfl
  simp only [Act.put, List.setIfInBounds_toArray, List.set_cons_succ, List.set_cons_zero]
  refine' wpAnyH_take (i := 22) ?h1x22a ?hsx22a ?hfx22a ?hrx22a ?hQx22a (Or.inl ⟨?hwx22a, ?hyx22a⟩) hS ?restx22a
  case h1x22a => (simp only [List.getElem?_toArray, List.getElem?_cons_succ, List.getElem?_cons_zero]; rfl)
  case hsx22a => kernel_rfl
  case hfx22a => kernel_rfl
  case hrx22a => kernel_rfl
  case hQx22a => exact fun _ _ _ h => h
  case hwx22a => rfl
  case hyx22a =>
    intro W hW
    go_simp
    try with_reducible rfl
  simp only [Act.put, List.setIfInBounds_toArray, List.set_cons_succ, List.set_cons_zero]
  refine' wpAnyH_take (i := 23) ?h1x23a ?hsx23a ?hfx23a ?hrx23a ?hQx23a (Or.inl ⟨?hwx23a, ?hyx23a⟩) hS ?restx23a
  case h1x23a => (simp only [List.getElem?_toArray, List.getElem?_cons_succ, List.getElem?_cons_zero]; rfl)
  case hsx23a => kernel_rfl
  case hfx23a => kernel_rfl
  case hrx23a => kernel_rfl
  case hQx23a => exact fun _ _ _ h => h
  case hwx23a => rfl
  case hyx23a =>
    intro W hW
    go_simp
    try with_reducible rfl
  simp only [Act.put, List.setIfInBounds_toArray, List.set_cons_succ, List.set_cons_zero]
  refine' wpAnyH_take (i := 24) ?h1x24a ?hsx24a ?hfx24a ?hrx24a ?hQx24a (Or.inl ⟨?hwx24a, ?hyx24a⟩) hS ?restx24a
  case h1x24a => (simp only [List.getElem?_toArray, List.getElem?_cons_succ, List.getElem?_cons_zero]; rfl)
  case hsx24a => kernel_rfl
  case hfx24a => kernel_rfl
  case hrx24a => kernel_rfl
  case hQx24a => exact fun _ _ _ h => h
  case hwx24a => rfl
  case hyx24a =>
    intro W hW
    go_simp
    try with_reducible rfl
  simp only [Act.put, List.setIfInBounds_toArray, List.set_cons_succ, List.set_cons_zero]
  refine wpAnyH_ready (rs := [25, 27]) (by kernel_rfl) (by simp) ?_
  refine' (AllReadyH.cons ?hoc25a (fun K hK => ?stc25a) (AllReadyH.cons ?hoc27a (fun K hK => ?stc27a) AllReadyH.nil))
  case hoc25a => (simp only [List.getElem?_toArray, List.getElem?_cons_succ, List.getElem?_cons_zero]; rfl)
  case hoc27a => (simp only [List.getElem?_toArray, List.getElem?_cons_succ, List.getElem?_cons_zero]; rfl)
  case stc25a =>
    go_simp
    refine (BL.out _).mono ?_
    rintro e wkay25y6 ⟨ex, rfl, hs, hb, _⟩
    go_wp2_with fail
    refine hK.out _ _ (hS.trans (hb.mono hS.size)) (fun hHeld => ?_)
    clear hK K
    try simp only [Act.put, List.setIfInBounds_toArray, List.set_cons_succ, List.set_cons_zero]
    have SL := Lib.hid hs
    clear hs
    have GB := Lib.hid (GB.out.trans (hHeld.mono GB.out.size))
    have GX := Lib.hid ((hHeld.block _ (blk_lt GX.out)).trans GX.out)
    have GC := Lib.hid ((hHeld.block _ (blk_lt GC.out)).trans GC.out)
    have SU := Lib.hid (SU.out.below hHeld)
    have SX := Lib.hid (SX.out.below hHeld)
    have SA := Lib.hid (SA.out.below hHeld)
    have SD := Lib.hid (SD.out.below hHeld)
    have SC := Lib.hid (SC.out.below hHeld)
    refine wpAnyH_mono (S' := fun W => Below wkay25y6.heap.size wkay25y6 W) (fun _ h => hHeld.trans (h.mono hHeld.size)) _ _ _ _ ?_
    clear hS hb hHeld
    have hS : Below wkay25y6.heap.size wkay25y6 wkay25y6 := Below.refl _ _
    refine' wpAnyH_take (i := 26) ?h1x26ay25y ?hsx26ay25y ?hfx26ay25y ?hrx26ay25y ?hQx26ay25y (Or.inl ⟨?hwx26ay25y, ?hyx26ay25y⟩) hS ?restx26ay25y
    case h1x26ay25y => (simp only [List.getElem?_toArray, List.getElem?_cons_succ, List.getElem?_cons_zero]; rfl)
    case hsx26ay25y => kernel_rfl
    case hfx26ay25y => kernel_rfl
    case hrx26ay25y => kernel_rfl
    case hQx26ay25y => exact fun _ _ _ h => h
    case hwx26ay25y => rfl
    case hyx26ay25y =>
      intro W hW
      have dd := (SL.out.below hW).str
      go_simp
      try with_reducible rfl
    simp only [Act.put, List.setIfInBounds_toArray, List.set_cons_succ, List.set_cons_zero]
    refine wpAnyH_ready (rs := [27]) (by kernel_rfl) (by simp) ?_
    refine' AllReadyH.cons ?hoc27ay25y (fun K hK => ?stc27ay25y) AllReadyH.nil
    case hoc27ay25y => (simp only [List.getElem?_toArray, List.getElem?_cons_succ, List.getElem?_cons_zero]; rfl)
    have dd := MK.out
    go_simp
    have hb : Below wkay25y6.heap.size wkay25y6 (wkay25y6.alloc (.cells Z5 5)) := (Below.refl _ _).alloc (Nat.le_refl _) _
    refine hK.out _ _ (hS.trans (hb.mono hS.size)) (fun hHeld => ?_)
    clear hK K dd
    try simp only [Act.put, List.setIfInBounds_toArray, List.set_cons_succ, List.set_cons_zero]
    have SM := Lib.hid (N5.out wkay25y6)
    generalize wkay25y6.alloc (.cells Z5 5) = wkay25y7 at *
    have GB := Lib.hid (GB.out.trans (hHeld.mono GB.out.size))
    have GX := Lib.hid ((hHeld.block _ (blk_lt GX.out)).trans GX.out)
    have GC := Lib.hid ((hHeld.block _ (blk_lt GC.out)).trans GC.out)
    have SU := Lib.hid (SU.out.below hHeld)
    have SX := Lib.hid (SX.out.below hHeld)
    have SA := Lib.hid (SA.out.below hHeld)
    have SD := Lib.hid (SD.out.below hHeld)
    have SC := Lib.hid (SC.out.below hHeld)
    have SL := Lib.hid (SL.out.below hHeld)
    refine wpAnyH_mono (S' := fun W => Below wkay25y7.heap.size wkay25y7 W) (fun _ h => hHeld.trans (h.mono hHeld.size)) _ _ _ _ ?_
    clear hS hb hHeld
    have hS : Below wkay25y7.heap.size wkay25y7 wkay25y7 := Below.refl _ _
    generalize wkay25y6.heap.size = gwkay25y7 at *
    refine' wpAnyH_take (i := 28) ?h1x28ay25y ?hsx28ay25y ?hfx28ay25y ?hrx28ay25y ?hQx28ay25y (Or.inl ⟨?hwx28ay25y, ?hyx28ay25y⟩) hS ?restx28ay25y
    case h1x28ay25y => (simp only [List.getElem?_toArray, List.getElem?_cons_succ, List.getElem?_cons_zero]; rfl)
    case hsx28ay25y => kernel_rfl
    case hfx28ay25y => kernel_rfl
    case hrx28ay25y => kernel_rfl
    case hQx28ay25y => exact fun _ _ _ h => h
    case hwx28ay25y => rfl
    case hyx28ay25y =>
      intro W hW
      have dd := (SM.out.below hW).str
      go_simp
      try with_reducible rfl
    simp only [Act.put, List.setIfInBounds_toArray, List.set_cons_succ, List.set_cons_zero]
    refine' wpAnyH_take (i := 29) ?h1x29ay25y ?hsx29ay25y ?hfx29ay25y ?hrx29ay25y ?hQx29ay25y (Or.inl ⟨?hwx29ay25y, ?hyx29ay25y⟩) hS ?restx29ay25y
    case h1x29ay25y => (simp only [List.getElem?_toArray, List.getElem?_cons_succ, List.getElem?_cons_zero]; rfl)
    case hsx29ay25y => kernel_rfl
    case hfx29ay25y => kernel_rfl
    case hrx29ay25y => kernel_rfl
    case hQx29ay25y => exact fun _ _ _ h => h
    case hwx29ay25y => rfl
    case hyx29ay25y =>
      intro W hW
      have dd := T3.out
      go_simp
      try with_reducible rfl
    simp only [Act.put, List.setIfInBounds_toArray, List.set_cons_succ, List.set_cons_zero]
    refine' wpAnyH_take (i := 30) ?h1x30ay25y ?hsx30ay25y ?hfx30ay25y ?hrx30ay25y ?hQx30ay25y (Or.inl ⟨?hwx30ay25y, ?hyx30ay25y⟩) hS ?restx30ay25y
    case h1x30ay25y => (simp only [List.getElem?_toArray, List.getElem?_cons_succ, List.getElem?_cons_zero]; rfl)
    case hsx30ay25y => kernel_rfl
    case hfx30ay25y => kernel_rfl
    case hrx30ay25y => kernel_rfl
    case hQx30ay25y => exact fun _ _ _ h => h
    case hwx30ay25y => rfl
    case hyx30ay25y =>
      intro W hW
      go_simp
      try with_reducible rfl
    simp only [Act.put, List.setIfInBounds_toArray, List.set_cons_succ, List.set_cons_zero]
    refine' wpAnyH_take (i := 31) ?h1x31ay25y ?hsx31ay25y ?hfx31ay25y ?hrx31ay25y ?hQx31ay25y (Or.inl ⟨?hwx31ay25y, ?hyx31ay25y⟩) hS ?restx31ay25y
    case h1x31ay25y => (simp only [List.getElem?_toArray, List.getElem?_cons_succ, List.getElem?_cons_zero]; rfl)
    case hsx31ay25y => kernel_rfl
    case hfx31ay25y => kernel_rfl
    case hrx31ay25y => kernel_rfl
    case hQx31ay25y => exact fun _ _ _ h => h
    case hwx31ay25y => rfl
    case hyx31ay25y =>
      intro W hW
      go_simp
      try with_reducible rfl
    simp only [Act.put, List.setIfInBounds_toArray, List.set_cons_succ, List.set_cons_zero]
    refine wpAnyH_done (by kernel_rfl) ?_ _
    go_wp2_with fail
    go_ret
    exact ⟨rfl, GB.out⟩
  case stc27a =>
    have dd := MK.out
    go_simp
    have hb : Below wka5.heap.size wka5 (wka5.alloc (.cells Z5 5)) := (Below.refl _ _).alloc (Nat.le_refl _) _
    refine hK.out _ _ (hS.trans (hb.mono hS.size)) (fun hHeld => ?_)
    clear hK K dd
    try simp only [Act.put, List.setIfInBounds_toArray, List.set_cons_succ, List.set_cons_zero]
    have SM := Lib.hid (N5.out wka5)
    generalize wka5.alloc (.cells Z5 5) = wkay27y6 at *
    have GB := Lib.hid (GB.out.trans (hHeld.mono GB.out.size))
    have GX := Lib.hid ((hHeld.block _ (blk_lt GX.out)).trans GX.out)
    have GC := Lib.hid ((hHeld.block _ (blk_lt GC.out)).trans GC.out)
    have SU := Lib.hid (SU.out.below hHeld)
    have SX := Lib.hid (SX.out.below hHeld)
    have SA := Lib.hid (SA.out.below hHeld)
    have SD := Lib.hid (SD.out.below hHeld)
    have SC := Lib.hid (SC.out.below hHeld)
    refine wpAnyH_mono (S' := fun W => Below wkay27y6.heap.size wkay27y6 W) (fun _ h => hHeld.trans (h.mono hHeld.size)) _ _ _ _ ?_
    clear hS hb hHeld
    have hS : Below wkay27y6.heap.size wkay27y6 wkay27y6 := Below.refl _ _
    generalize wka5.heap.size = gwkay27y6 at *
    refine' wpAnyH_take (i := 28) ?h1x28ay27y ?hsx28ay27y ?hfx28ay27y ?hrx28ay27y ?hQx28ay27y (Or.inl ⟨?hwx28ay27y, ?hyx28ay27y⟩) hS ?restx28ay27y
    case h1x28ay27y => (simp only [List.getElem?_toArray, List.getElem?_cons_succ, List.getElem?_cons_zero]; rfl)
    case hsx28ay27y => kernel_rfl
    case hfx28ay27y => kernel_rfl
    case hrx28ay27y => kernel_rfl
    case hQx28ay27y => exact fun _ _ _ h => h
    case hwx28ay27y => rfl
    case hyx28ay27y =>
      intro W hW
      have dd := (SM.out.below hW).str
      go_simp
      try with_reducible rfl
    simp only [Act.put, List.setIfInBounds_toArray, List.set_cons_succ, List.set_cons_zero]
    refine wpAnyH_ready (rs := [25]) (by kernel_rfl) (by simp) ?_
    refine' AllReadyH.cons ?hoc25ay27y (fun K hK => ?stc25ay27y) AllReadyH.nil
    case hoc25ay27y => (simp only [List.getElem?_toArray, List.getElem?_cons_succ, List.getElem?_cons_zero]; rfl)
    go_simp
    refine (BL.out _).mono ?_
    rintro e wkay27y7 ⟨ex, rfl, hs, hb, _⟩
    go_wp2_with fail
    refine hK.out _ _ (hS.trans (hb.mono hS.size)) (fun hHeld => ?_)
    clear hK K
    try simp only [Act.put, List.setIfInBounds_toArray, List.set_cons_succ, List.set_cons_zero]
    have SL := Lib.hid hs
    clear hs
    have GB := Lib.hid (GB.out.trans (hHeld.mono GB.out.size))
    have GX := Lib.hid ((hHeld.block _ (blk_lt GX.out)).trans GX.out)
    have GC := Lib.hid ((hHeld.block _ (blk_lt GC.out)).trans GC.out)
    have SU := Lib.hid (SU.out.below hHeld)
    have SX := Lib.hid (SX.out.below hHeld)
    have SA := Lib.hid (SA.out.below hHeld)
    have SD := Lib.hid (SD.out.below hHeld)
    have SC := Lib.hid (SC.out.below hHeld)
    have SM := Lib.hid (SM.out.below hHeld)
    refine wpAnyH_mono (S' := fun W => Below wkay27y7.heap.size wkay27y7 W) (fun _ h => hHeld.trans (h.mono hHeld.size)) _ _ _ _ ?_
    clear hS hb hHeld
    have hS : Below wkay27y7.heap.size wkay27y7 wkay27y7 := Below.refl _ _
    refine' wpAnyH_take (i := 26) ?h1x26ay27y ?hsx26ay27y ?hfx26ay27y ?hrx26ay27y ?hQx26ay27y (Or.inl ⟨?hwx26ay27y, ?hyx26ay27y⟩) hS ?restx26ay27y
    case h1x26ay27y => (simp only [List.getElem?_toArray, List.getElem?_cons_succ, List.getElem?_cons_zero]; rfl)
    case hsx26ay27y => kernel_rfl
    case hfx26ay27y => kernel_rfl
    case hrx26ay27y => kernel_rfl
    case hQx26ay27y => exact fun _ _ _ h => h
    case hwx26ay27y => rfl
    case hyx26ay27y =>
      intro W hW
      have dd := (SL.out.below hW).str
      go_simp
      try with_reducible rfl
    simp only [Act.put, List.setIfInBounds_toArray, List.set_cons_succ, List.set_cons_zero]
    refine' wpAnyH_take (i := 29) ?h1x29ay27y ?hsx29ay27y ?hfx29ay27y ?hrx29ay27y ?hQx29ay27y (Or.inl ⟨?hwx29ay27y, ?hyx29ay27y⟩) hS ?restx29ay27y
    case h1x29ay27y => (simp only [List.getElem?_toArray, List.getElem?_cons_succ, List.getElem?_cons_zero]; rfl)
    case hsx29ay27y => kernel_rfl
    case hfx29ay27y => kernel_rfl
    case hrx29ay27y => kernel_rfl
    case hQx29ay27y => exact fun _ _ _ h => h
    case hwx29ay27y => rfl
    case hyx29ay27y =>
      intro W hW
      have dd := T3.out
      go_simp
      try with_reducible rfl
    simp only [Act.put, List.setIfInBounds_toArray, List.set_cons_succ, List.set_cons_zero]
    refine' wpAnyH_take (i := 30) ?h1x30ay27y ?hsx30ay27y ?hfx30ay27y ?hrx30ay27y ?hQx30ay27y (Or.inl ⟨?hwx30ay27y, ?hyx30ay27y⟩) hS ?restx30ay27y
    case h1x30ay27y => (simp only [List.getElem?_toArray, List.getElem?_cons_succ, List.getElem?_cons_zero]; rfl)
    case hsx30ay27y => kernel_rfl
    case hfx30ay27y => kernel_rfl
    case hrx30ay27y => kernel_rfl
    case hQx30ay27y => exact fun _ _ _ h => h
    case hwx30ay27y => rfl
    case hyx30ay27y =>
      intro W hW
      go_simp
      try with_reducible rfl
    simp only [Act.put, List.setIfInBounds_toArray, List.set_cons_succ, List.set_cons_zero]
    refine' wpAnyH_take (i := 31) ?h1x31ay27y ?hsx31ay27y ?hfx31ay27y ?hrx31ay27y ?hQx31ay27y (Or.inl ⟨?hwx31ay27y, ?hyx31ay27y⟩) hS ?restx31ay27y
    case h1x31ay27y => (simp only [List.getElem?_toArray, List.getElem?_cons_succ, List.getElem?_cons_zero]; rfl)
    case hsx31ay27y => kernel_rfl
    case hfx31ay27y => kernel_rfl
    case hrx31ay27y => kernel_rfl
    case hQx31ay27y => exact fun _ _ _ h => h
    case hwx31ay27y => rfl
    case hyx31ay27y =>
      intro W hW
      go_simp
      try with_reducible rfl
    simp only [Act.put, List.setIfInBounds_toArray, List.set_cons_succ, List.set_cons_zero]
    refine wpAnyH_done (by kernel_rfl) ?_ _
    go_wp2_with fail
    go_ret
    exact ⟨rfl, GB.out⟩
theorem walk (xs : List Int) (hx : Byt xs) (lx : xs.length = 104) (v : Value) (bs : List Int) (w : World) (h : Sees w v bs) :
    Calls Try.prog 7 #[.agg (bcells xs), v] w fun e w' => e = .returned (.bool true) ∧ Below w.heap.size w w' := by
  by_cases hl : bs.length ≤ 1000
  · exact walk_small xs hx lx v bs hl w h
  · obtain ⟨x, cap, rfl, h63⟩ := h.form
    exact walk_great _ x _ cap h63 (by omega) w

set_option maxRecDepth 100000 in
theorem lifted (os : Os) (started : os.Started) (H : Type) (enc : TypeId × Value → H) :
    ReturnsInHanded {} Try.checked os 7 .any (Rows.slotBytesSpec.pre6 enc Try.prog Try.f7 Rows.slotBytesRow.domain false) (Rows.slotBytesSpec.post enc Try.prog Try.f7 false true false false) := by
  refine returnsInHanded_of_change (C := Try.checked) own started (by kernel_rfl) Try.func7
    (ChangeSpec.witness6 (enc := enc) (C := Try.checked) false ⟨#[], #[.agg (bcells (zs 104)), .slice none 0 0], []⟩ 8 (by kernel_rfl) (by kernel_rfl) (by kernel_rfl) (by kernel_rfl)) ?_
  intro W base args ds gs before hval0 hW hcnd _
  have hval : ∀ (j : Nat) t v, Try.f7.params[j]? = some t → args[j]? = some v → Value.okWide Try.prog W .any base t v := hval0
  have hW' := hW
  obtain ⟨p, q, hA0, hV, rfl, hfz, hnd⟩ := hW
  have hA : DataW.TrodAll enc Try.prog W 0 (fun _ => true) true Try.f7.params.toList args.toList ds p := hA0
  rw [Try.params7] at hA hval
  obtain ⟨v0, vs0, d0, ds0, p0, q0, hargs, rfl, rfl, h0, r0⟩ := trodAll_cons hA
  obtain ⟨v1, vs1, d1, ds1, p1, q1, rfl, rfl, rfl, h1, r1⟩ := trodAll_cons r0
  obtain ⟨rfl, rfl, rfl⟩ := trodAll_nil r1
  obtain rfl : args = #[v0, v1] := by cases args; simp_all
  obtain ⟨rfl, rfl⟩ := trodVars_none hV
  obtain ⟨y0, hy0, ly0, rfl⟩ := open_slot (hval 0 61 v0 rfl rfl) h0
  obtain ⟨x1, s1⟩ := open_sees (hval 1 30 v1 rfl rfl) h1
  refine (walk y0 hy0 ly0 v1 x1 W s1).mono fun e W' ⟨he, hb⟩ => ?_
  subst he
  exact ⟨_, rfl, law_post hW' rfl rfl rfl (by kernel_rfl) hb⟩

/-- The statement. -/
theorem proved : Rows.SlotBytesSaid :=
  OpenClaim.holds_of_wide 7 Try.f7 rfl rfl rfl rfl rfl rfl rfl ⟨rfl, rfl, rfl, rfl, rfl⟩ rfl rfl rfl rfl rfl (by kernel_rfl) Try.func7 (by kernel_rfl)
    (of_decide_eq_true (by kernel_rfl)) (by unfold Func.isWrapper; first | (rw [if_pos (by decide +kernel)]; kernel_rfl) | (rw [if_neg (by decide +kernel)]; exact ⟨rfl, rfl⟩))
    (fun os started H enc _ => lifted os started H enc)
#print axioms proved
end Go.Proofs.Ytplffbpnjnbolaa.slotBytes
