/-
  For all masks and stamps the law XtsMasks of package casematelaw06 returns true, and they read afterwards as before: masks are doubled, and stamps have their tweaks, as the document says. Condition: none.
-/
import Derived.Test.YtekffhopmicalaaXtsR
namespace Go.Proofs.Ytekffhopmicalaa.xtsMasks
open Go.ChangeShapes Go.WideShapes Go.ChangeAt Go.RowKit
set_option maxRecDepth 100000 in
set_option maxHeartbeats 8000000 in
theorem walk (m : List Nat) (s : Int) (hm : Bts 16 m) (hs : 0 ≤ s ∧ s ≤ 18446744073709551615) (w : World) :
    Calls Try.prog 8 #[.agg (ncells m), .int .u64 s] w fun e w' => e = .returned (.bool true) ∧ Below w.heap.size w w' := by
  obtain ⟨s, rfl⟩ := Int.eq_ofNat_of_zero_le hs.1
  have D1 : Hid (∀ W : World, Calls Try.prog 25 #[.agg (ncells m)] W fun e w' => e = .returned (.agg (ncells (dbm m))) ∧ Below W.heap.size W w') := fun W => doubleC m hm W
  have T1 : Hid (∀ W : World, Calls Try.prog 26 #[.int .u64 s] W fun e w' => e = .returned (.agg (ncells (twk s))) ∧ Below W.heap.size W w') := fun W => tweakC s W
  have RD : Hid (∀ (W : World) (g : Nat), W.heap[g]? = some (.cells (ncells m) 37 (0, 0)) → Calls Try.prog 28 #[.slice (some ⟨g, 0, none⟩) 16 16] W (OwnP W (dbm m))) := fun W g h => refDouble m hm g 0 16 W (fun i hi => by rw [Nat.zero_add]; exact cell_at h hm.1 hi)
  have RT : Hid (∀ W : World, Calls Try.prog 29 #[.int .u64 s] W (OwnP W (twk s))) := fun W => refTweak s (by omega) W
  have XB : Hid (Bts 16 (dbm m)) := dbm_bts hm
  have YB : Hid (Bts 16 (twk s)) := twk_bts s
  have zz := zero47
  obtain ⟨Z, hZ⟩ : ∃ Z, Z = ncells (zeros 16) := ⟨_, rfl⟩
  rw [← hZ] at zz
  have ZL : Hid (∀ l : List Nat, l.length = 16 → Z.size = (ncells l).size) := fun l hl => by rw [hZ]; exact z47 hl
  have HM := Lib.hid hm
  generalize dbm m = x at *
  generalize twk s = y at *
  have SR : Hid (∀ (W : World) (g : Nat) (l : List Nat), Bts 16 l → W.heap[g]? = some (.cells (ncells l) 37 (0, 0)) → (convert 28 9 (.slice (some ⟨g, 0, none⟩) 16 16)).run Try.prog W = .ok (.string (strN l)) W) := fun W g l hl h => (sees_row W g l hl.2 (by rw [hl.1]; simp [maxLen]) h 16 hl.1.symm).str
  have SQ1 : Hid (((strN x).toList == (strN x).toList) = true) := by show _ = _; simp
  have SQ2 : Hid (((strN y).toList == (strN y).toList) = true) := by show _ = _; simp
  have G0 := Lib.hid (heap_alloc_new w (.cells (ncells m) 37))
  have HB : Hid (Below w.heap.size w (w.alloc (.cells (ncells m) 37))) := (Below.refl _ _).alloc (Nat.le_refl _) _
  clear hZ hm hs
  go_enter Try.func8, Try.ntmps8
  go_wp2_with (first
    | (refine wpList_load_row rfl 37 (.tmp 2) rfl w.heap.size rfl 37 (ncells m) (0, 0) _ G0.out Try.underlying37 rfl (i47 HM.out.1) ?_))
  refine (D1.out _).mono ?_
  rintro e w1 ⟨rfl, hb⟩
  have G1 := Lib.hid ((hb.block _ (blk_lt G0.out)).trans G0.out)
  have B1 := Lib.hid (HB.out.trans (hb.mono HB.out.size))
  clear hb G0 HB
  go_wp2_with fail
  refine (T1.out _).mono ?_
  rintro e w2 ⟨rfl, hb⟩
  have G2 := Lib.hid ((hb.block _ (blk_lt G1.out)).trans G1.out)
  have B2 := Lib.hid (B1.out.trans (hb.mono B1.out.size))
  clear hb G1 B1
  have K5 : Hid (((w2.alloc (.cells Z 37)).alloc (.cells Z 37)).heap[w2.heap.size]? = some (.cells Z 37 (0, 0))) := by show _ = _; rw [Below.heap_alloc _ _ _ (by simp)]; exact heap_alloc_new w2 _
  have K6 : Hid ((((w2.alloc (.cells Z 37)).alloc (.cells Z 37)).setRow w2.heap.size (ncells x)).heap[w2.heap.size + 1]? = some (.cells Z 37 (0, 0))) := by
    show _ = _
    rw [setRow_other _ _ _ _ (by omega)]; exact heap_alloc2_new w2 _ _
  go_wp2_with (first
    | (refine wpList_store_row rfl 37 (.tmp 5) (.tmp 8) rfl w2.heap.size (ncells x) rfl rfl 37 Z K5.out (i47 XB.out.1) (ZL.out _ XB.out.1) (none_ _) ?_)
    | (refine wpList_store_row rfl 37 (.tmp 6) (.tmp 10) rfl (w2.heap.size + 1) (ncells y) rfl rfl 37 Z K6.out (i47 YB.out.1) (ZL.out _ YB.out.1) (none_ _) ?_))
  have b3 : Below w2.heap.size w2 ((((w2.alloc (.cells Z 37)).alloc (.cells Z 37)).setRow w2.heap.size (ncells x)).setRow (w2.heap.size + 1) (ncells y)) :=
    ((((Below.refl _ _).alloc (Nat.le_refl _) _).alloc (by simp) _).trans (below_row _ _ (Nat.le_refl _))).trans (below_row _ _ (by omega))
  have r5 : ((((w2.alloc (.cells Z 37)).alloc (.cells Z 37)).setRow w2.heap.size (ncells x)).setRow (w2.heap.size + 1) (ncells y)).heap[w2.heap.size]? = some (.cells (ncells x) 37 (0, 0)) := by
    rw [setRow_other _ _ _ _ (by omega)]; exact setRow_heap _ _ _ _ _ _ K5.out
  have r6 : ((((w2.alloc (.cells Z 37)).alloc (.cells Z 37)).setRow w2.heap.size (ncells x)).setRow (w2.heap.size + 1) (ncells y)).heap[w2.heap.size + 1]? = some (.cells (ncells y) 37 (0, 0)) := setRow_heap _ _ _ _ _ _ K6.out
  generalize (((w2.alloc (.cells Z 37)).alloc (.cells Z 37)).setRow w2.heap.size (ncells x)).setRow (w2.heap.size + 1) (ncells y) = w3 at *
  have B3 := Lib.hid (B2.out.trans (b3.mono B2.out.size))
  have G3 := Lib.hid ((b3.block _ (blk_lt G2.out)).trans G2.out)
  have R5 := Lib.hid r5
  have R6 := Lib.hid r6
  clear b3 r5 r6 G2 K5 K6
  generalize w2.heap.size = g5 at *
  have aa := arr16_all
  have sq1 := SQ1.out
  have sq2 := SQ2.out
  refine wp_region_held_drew (S := fun W => Below w3.heap.size w3 W) (by kernel_rfl) (Below.refl _ _).drew (fun hS => ?_)
  refine wpAnyH_ready (rs := [0]) (by kernel_rfl) (by simp) ?_
  refine' AllReadyH.cons ?hoc0p (fun K hK => ?stc0p) AllReadyH.nil
  case hoc0p => (simp only [List.getElem?_toArray, List.getElem?_cons_zero]; rfl)
  go_simp
  refine (alive6 _).mono ?_
  rintro e wa ⟨rfl, hb⟩
  go_wp2_with fail
  refine hK.out _ _ (hS.trans (hb.mono hS.size)) (fun hHeld => ?_)
  clear hK K
  try simp only [Act.put, List.setIfInBounds_toArray, List.set_cons_succ, List.set_cons_zero]
  clear hS hb
  have hS := hHeld
  clear hHeld
  refine' wpAnyH_take (i := 1) ?h1x1p ?hsx1p ?hfx1p ?hrx1p ?hQx1p (Or.inl ⟨?hwx1p, ?hyx1p⟩) hS ?restx1p
  case h1x1p => (simp only [List.getElem?_toArray, List.getElem?_cons_succ, List.getElem?_cons_zero]; rfl)
  case hsx1p => kernel_rfl
  case hfx1p => kernel_rfl
  case hrx1p => kernel_rfl
  case hQx1p => exact fun _ _ _ h => h
  case hwx1p => rfl
  case hyx1p =>
    intro W hW
    go_simp
    try with_reducible rfl
  simp only [Act.put, List.setIfInBounds_toArray, List.set_cons_succ, List.set_cons_zero]
  refine' wpAnyH_take (i := 2) ?h1x2p ?hsx2p ?hfx2p ?hrx2p ?hQx2p (Or.inl ⟨?hwx2p, ?hyx2p⟩) hS ?restx2p
  case h1x2p => (simp only [List.getElem?_toArray, List.getElem?_cons_succ, List.getElem?_cons_zero]; rfl)
  case hsx2p => kernel_rfl
  case hfx2p => kernel_rfl
  case hrx2p => kernel_rfl
  case hQx2p => exact fun _ _ _ h => h
  case hwx2p => rfl
  case hyx2p =>
    intro W hW
    go_simp
    try with_reducible rfl
  simp only [Act.put, List.setIfInBounds_toArray, List.set_cons_succ, List.set_cons_zero]
  refine' wpAnyH_take (i := 3) ?h1x3p ?hsx3p ?hfx3p ?hrx3p ?hQx3p (Or.inl ⟨?hwx3p, ?hyx3p⟩) hS ?restx3p
  case h1x3p => (simp only [List.getElem?_toArray, List.getElem?_cons_succ, List.getElem?_cons_zero]; rfl)
  case hsx3p => kernel_rfl
  case hfx3p => kernel_rfl
  case hrx3p => kernel_rfl
  case hQx3p => exact fun _ _ _ h => h
  case hwx3p => rfl
  case hyx3p =>
    intro W hW
    have cs := SR.out W g5 _ XB.out ((hW.block _ (blk_lt R5.out)).trans R5.out)
    go_simp
    try with_reducible rfl
  simp only [Act.put, List.setIfInBounds_toArray, List.set_cons_succ, List.set_cons_zero]
  refine' wpAnyH_take (i := 4) ?h1x4p ?hsx4p ?hfx4p ?hrx4p ?hQx4p (Or.inl ⟨?hwx4p, ?hyx4p⟩) hS ?restx4p
  case h1x4p => (simp only [List.getElem?_toArray, List.getElem?_cons_succ, List.getElem?_cons_zero]; rfl)
  case hsx4p => kernel_rfl
  case hfx4p => kernel_rfl
  case hrx4p => kernel_rfl
  case hQx4p => exact fun _ _ _ h => h
  case hwx4p => rfl
  case hyx4p =>
    intro W hW
    go_simp
    try with_reducible rfl
  simp only [Act.put, List.setIfInBounds_toArray, List.set_cons_succ, List.set_cons_zero]
  refine wpAnyH_ready (rs := [5]) (by kernel_rfl) (by simp) ?_
  refine' AllReadyH.cons ?hoc5p (fun K hK => ?stc5p) AllReadyH.nil
  case hoc5p => (simp only [List.getElem?_toArray, List.getElem?_cons_succ, List.getElem?_cons_zero]; rfl)
  go_simp
  refine (RD.out _ _ ((hS.block _ (blk_lt G3.out)).trans G3.out)).mono ?_
  rintro e wb ⟨q1, c1, rfl, ho1, hb⟩
  rw [XB.out.1] at ho1
  rw [XB.out.1]
  go_wp2_with fail
  refine hK.out _ _ (hS.trans (hb.mono hS.size)) (fun hHeld => ?_)
  clear hK K
  try simp only [Act.put, List.setIfInBounds_toArray, List.set_cons_succ, List.set_cons_zero]
  have HO1 := Lib.hid ho1.sees
  clear ho1
  clear hS hb
  have hS := hHeld
  clear hHeld
  have B5 := Lib.hid hS
  refine moreS (S' := fun W => Below wb.heap.size wb W) (fun W hW => B5.out.trans (hW.mono B5.out.size)) _ _ _ _ ?_
  clear hS
  have hS := Below.refl wb.heap.size wb
  refine' wpAnyH_take (i := 6) ?h1x6p ?hsx6p ?hfx6p ?hrx6p ?hQx6p (Or.inl ⟨?hwx6p, ?hyx6p⟩) hS ?restx6p
  case h1x6p => (simp only [List.getElem?_toArray, List.getElem?_cons_succ, List.getElem?_cons_zero]; rfl)
  case hsx6p => kernel_rfl
  case hfx6p => kernel_rfl
  case hrx6p => kernel_rfl
  case hQx6p => exact fun _ _ _ h => h
  case hwx6p => rfl
  case hyx6p =>
    intro W hW
    have cs := (HO1.out.below hW).str
    go_simp
    try with_reducible rfl
  simp only [Act.put, List.setIfInBounds_toArray, List.set_cons_succ, List.set_cons_zero]
  refine' wpAnyH_take (i := 7) ?h1x7p ?hsx7p ?hfx7p ?hrx7p ?hQx7p (Or.inl ⟨?hwx7p, ?hyx7p⟩) hS ?restx7p
  case h1x7p => (simp only [List.getElem?_toArray, List.getElem?_cons_succ, List.getElem?_cons_zero]; rfl)
  case hsx7p => kernel_rfl
  case hfx7p => kernel_rfl
  case hrx7p => kernel_rfl
  case hQx7p => exact fun _ _ _ h => h
  case hwx7p => rfl
  case hyx7p =>
    intro W hW
    go_simp
    try with_reducible rfl
  simp only [Act.put, List.setIfInBounds_toArray, List.set_cons_succ, List.set_cons_zero]
  refine' wpAnyH_take (i := 8) ?h1x8p ?hsx8p ?hfx8p ?hrx8p ?hQx8p (Or.inl ⟨?hwx8p, ?hyx8p⟩) hS ?restx8p
  case h1x8p => (simp only [List.getElem?_toArray, List.getElem?_cons_succ, List.getElem?_cons_zero]; rfl)
  case hsx8p => kernel_rfl
  case hfx8p => kernel_rfl
  case hrx8p => kernel_rfl
  case hQx8p => exact fun _ _ _ h => h
  case hwx8p => rfl
  case hyx8p =>
    intro W hW
    go_simp
    try with_reducible rfl
  simp only [Act.put, List.setIfInBounds_toArray, List.set_cons_succ, List.set_cons_zero]
  refine' wpAnyH_take (i := 9) ?h1x9p ?hsx9p ?hfx9p ?hrx9p ?hQx9p (Or.inl ⟨?hwx9p, ?hyx9p⟩) hS ?restx9p
  case h1x9p => (simp only [List.getElem?_toArray, List.getElem?_cons_succ, List.getElem?_cons_zero]; rfl)
  case hsx9p => kernel_rfl
  case hfx9p => kernel_rfl
  case hrx9p => kernel_rfl
  case hQx9p => exact fun _ _ _ h => h
  case hwx9p => rfl
  case hyx9p =>
    intro W hW
    go_simp
    try with_reducible rfl
  simp only [Act.put, List.setIfInBounds_toArray, List.set_cons_succ, List.set_cons_zero]
  refine' wpAnyH_take (i := 10) ?h1x10p ?hsx10p ?hfx10p ?hrx10p ?hQx10p (Or.inl ⟨?hwx10p, ?hyx10p⟩) hS ?restx10p
  case h1x10p => (simp only [List.getElem?_toArray, List.getElem?_cons_succ, List.getElem?_cons_zero]; rfl)
  case hsx10p => kernel_rfl
  case hfx10p => kernel_rfl
  case hrx10p => kernel_rfl
  case hQx10p => exact fun _ _ _ h => h
  case hwx10p => rfl
  case hyx10p =>
    intro W hW
    go_simp
    try with_reducible rfl
  simp only [Act.put, List.setIfInBounds_toArray, List.set_cons_succ, List.set_cons_zero]
  refine' wpAnyH_take (i := 11) ?h1x11p ?hsx11p ?hfx11p ?hrx11p ?hQx11p (Or.inl ⟨?hwx11p, ?hyx11p⟩) hS ?restx11p
  case h1x11p => (simp only [List.getElem?_toArray, List.getElem?_cons_succ, List.getElem?_cons_zero]; rfl)
  case hsx11p => kernel_rfl
  case hfx11p => kernel_rfl
  case hrx11p => kernel_rfl
  case hQx11p => exact fun _ _ _ h => h
  case hwx11p => rfl
  case hyx11p =>
    intro W hW
    have hW3 := B5.out.trans (hW.mono B5.out.size)
    have cs := SR.out W _ _ YB.out ((hW3.block _ (blk_lt R6.out)).trans R6.out)
    go_simp
    try with_reducible rfl
  simp only [Act.put, List.setIfInBounds_toArray, List.set_cons_succ, List.set_cons_zero]
  refine' wpAnyH_take (i := 12) ?h1x12p ?hsx12p ?hfx12p ?hrx12p ?hQx12p (Or.inl ⟨?hwx12p, ?hyx12p⟩) hS ?restx12p
  case h1x12p => (simp only [List.getElem?_toArray, List.getElem?_cons_succ, List.getElem?_cons_zero]; rfl)
  case hsx12p => kernel_rfl
  case hfx12p => kernel_rfl
  case hrx12p => kernel_rfl
  case hQx12p => exact fun _ _ _ h => h
  case hwx12p => rfl
  case hyx12p =>
    intro W hW
    go_simp
    try with_reducible rfl
  simp only [Act.put, List.setIfInBounds_toArray, List.set_cons_succ, List.set_cons_zero]
  refine wpAnyH_ready (rs := [13]) (by kernel_rfl) (by simp) ?_
  refine' AllReadyH.cons ?hoc13p (fun K hK => ?stc13p) AllReadyH.nil
  case hoc13p => (simp only [List.getElem?_toArray, List.getElem?_cons_succ, List.getElem?_cons_zero]; rfl)
  go_simp
  refine (RT.out _).mono ?_
  rintro e wd ⟨q2, c2, rfl, ho2, hb⟩
  rw [YB.out.1] at ho2
  rw [YB.out.1]
  go_wp2_with fail
  refine hK.out _ _ (hS.trans (hb.mono hS.size)) (fun hHeld => ?_)
  clear hK K
  try simp only [Act.put, List.setIfInBounds_toArray, List.set_cons_succ, List.set_cons_zero]
  have HO2 := Lib.hid ho2.sees
  clear ho2
  clear hS hb
  have hS := hHeld
  clear hHeld
  have B6 := Lib.hid hS
  refine moreS (S' := fun W => Below wd.heap.size wd W) (fun W hW => B6.out.trans (hW.mono B6.out.size)) _ _ _ _ ?_
  clear hS
  have hS := Below.refl wd.heap.size wd
  refine' wpAnyH_take (i := 14) ?h1x14p ?hsx14p ?hfx14p ?hrx14p ?hQx14p (Or.inl ⟨?hwx14p, ?hyx14p⟩) hS ?restx14p
  case h1x14p => (simp only [List.getElem?_toArray, List.getElem?_cons_succ, List.getElem?_cons_zero]; rfl)
  case hsx14p => kernel_rfl
  case hfx14p => kernel_rfl
  case hrx14p => kernel_rfl
  case hQx14p => exact fun _ _ _ h => h
  case hwx14p => rfl
  case hyx14p =>
    intro W hW
    have cs := (HO2.out.below hW).str
    go_simp
    try with_reducible rfl
  simp only [Act.put, List.setIfInBounds_toArray, List.set_cons_succ, List.set_cons_zero]
  refine' wpAnyH_take (i := 15) ?h1x15p ?hsx15p ?hfx15p ?hrx15p ?hQx15p (Or.inl ⟨?hwx15p, ?hyx15p⟩) hS ?restx15p
  case h1x15p => (simp only [List.getElem?_toArray, List.getElem?_cons_succ, List.getElem?_cons_zero]; rfl)
  case hsx15p => kernel_rfl
  case hfx15p => kernel_rfl
  case hrx15p => kernel_rfl
  case hQx15p => exact fun _ _ _ h => h
  case hwx15p => rfl
  case hyx15p =>
    intro W hW
    go_simp
    try with_reducible rfl
  simp only [Act.put, List.setIfInBounds_toArray, List.set_cons_succ, List.set_cons_zero]
  refine' wpAnyH_take (i := 16) ?h1x16p ?hsx16p ?hfx16p ?hrx16p ?hQx16p (Or.inl ⟨?hwx16p, ?hyx16p⟩) hS ?restx16p
  case h1x16p => (simp only [List.getElem?_toArray, List.getElem?_cons_succ, List.getElem?_cons_zero]; rfl)
  case hsx16p => kernel_rfl
  case hfx16p => kernel_rfl
  case hrx16p => kernel_rfl
  case hQx16p => exact fun _ _ _ h => h
  case hwx16p => rfl
  case hyx16p =>
    intro W hW
    go_simp
    try with_reducible rfl
  simp only [Act.put, List.setIfInBounds_toArray, List.set_cons_succ, List.set_cons_zero]
  refine' wpAnyH_take (i := 17) ?h1x17p ?hsx17p ?hfx17p ?hrx17p ?hQx17p (Or.inl ⟨?hwx17p, ?hyx17p⟩) hS ?restx17p
  case h1x17p => (simp only [List.getElem?_toArray, List.getElem?_cons_succ, List.getElem?_cons_zero]; rfl)
  case hsx17p => kernel_rfl
  case hfx17p => kernel_rfl
  case hrx17p => kernel_rfl
  case hQx17p => exact fun _ _ _ h => h
  case hwx17p => rfl
  case hyx17p =>
    intro W hW
    go_simp
    try with_reducible rfl
  simp only [Act.put, List.setIfInBounds_toArray, List.set_cons_succ, List.set_cons_zero]
  refine wpAnyH_done (by kernel_rfl) ?_ _
  go_wp2_with fail
  go_ret
  have bb := B5.out.trans ((B6.out.trans (hS.mono B6.out.size)).mono B5.out.size)
  exact ⟨rfl, B3.out.trans (bb.mono B3.out.size)⟩

set_option maxRecDepth 100000 in
theorem lifted (os : Os) (started : os.Started) (H : Type) (enc : TypeId × Value → H) :
    ReturnsInHanded {} Try.checked os 8 .any (Rows.xtsMasksSpec.pre6 enc Try.prog Try.f8 Rows.xtsMasksRow.domain false) (Rows.xtsMasksSpec.post enc Try.prog Try.f8 false true false false) := by
  refine returnsInHanded_of_change (C := Try.checked) own started (by kernel_rfl) Try.func8
    (ChangeSpec.witness6 (enc := enc) (C := Try.checked) false ⟨#[], #[.agg (Array.replicate 16 (.int .u8 0)), .int .u64 0], []⟩ 8 (by kernel_rfl) (by kernel_rfl) (by kernel_rfl) (by kernel_rfl)) ?_
  intro W base args ds gs before hval0 hW hcnd _
  have hval : ∀ (j : Nat) t v, Try.f8.params[j]? = some t → args[j]? = some v → Value.okWide Try.prog W .any base t v := hval0
  have hW' := hW
  obtain ⟨p, q, hA0, hV, rfl, hfz, hnd⟩ := hW
  have hA : DataW.TrodAll enc Try.prog W 0 (fun _ => true) true Try.f8.params.toList args.toList ds p := hA0
  rw [Try.params8] at hA hval
  obtain ⟨v0, vs0, d0, ds0, p0, q0, hargs, rfl, rfl, h0, r0⟩ := trodAll_cons hA
  obtain ⟨v1, vs1, d1, ds1, p1, q1, rfl, rfl, rfl, h1, r1⟩ := trodAll_cons r0
  obtain ⟨rfl, rfl, rfl⟩ := trodAll_nil r1
  obtain rfl : args = #[v0, v1] := by cases args; simp_all
  obtain ⟨rfl, rfl⟩ := trodVars_none hV
  obtain ⟨x0, b0, rfl⟩ := open_arr u37 cellsOf37 (hval 0 37 v0 rfl rfl) h0
  obtain ⟨a1, rfl, rfl, rfl, w1⟩ := open_int Try.underlying45 (hval 1 45 v1 rfl rfl) h1
  have b1 := bounds_u64 w1
  refine (walk x0 a1 b0 b1 W).mono fun e W' ⟨he, hb⟩ => ?_
  subst he
  exact ⟨_, rfl, law_post hW' rfl rfl rfl (by kernel_rfl) hb⟩

/-- The statement. -/
theorem proved : Rows.XtsMasksSaid :=
  OpenClaim.holds_of_wide 8 Try.f8 rfl rfl rfl rfl rfl rfl rfl ⟨rfl, rfl, rfl, rfl, rfl⟩ rfl rfl rfl rfl rfl (by kernel_rfl) Try.func8 (by kernel_rfl)
    (of_decide_eq_true (by kernel_rfl)) (by unfold Func.isWrapper; first | (rw [if_pos (by decide +kernel)]; kernel_rfl) | (rw [if_neg (by decide +kernel)]; exact ⟨rfl, rfl⟩))
    (fun os started H enc _ => lifted os started H enc)
#print axioms proved
end Go.Proofs.Ytekffhopmicalaa.xtsMasks
