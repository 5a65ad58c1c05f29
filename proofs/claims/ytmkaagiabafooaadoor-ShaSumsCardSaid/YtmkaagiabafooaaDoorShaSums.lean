/-
  For all texts the law ShaSums of package casematelaw02 returns true, and they read afterwards as before: each text has the document's sum, and texts that of all of them. Condition: the two tables of package sha read, when the call begins, as their declarations lay them (the card ties that to the program's text).
-/
import Derived.Test.YtmkaagiabafooaaDoorRefF
import Derived.Test.YtmkaagiabafooaaDoorAlive
import Derived.Test.YtmkaagiabafooaaDoorHeld
namespace Go.Proofs.YtmkaagiabafooaaDoor.shaSums
open Go.ChangeShapes Go.WideShapes Go.ChangeAt Go.RowKit
set_option maxRecDepth 100000 in
set_option maxHeartbeats 4000000 in
theorem walk_great (va vb : Value) (xs : List Int) (yss : List (List Int)) (w : World) (hG : Glob w) (ha : Sees w va xs) (hb : SeesM w vb yss) (h : 600 < xs.length ∨ greatB yss = true) :
    Calls Tryd.prog 3 #[va, vb] w fun e w' => e = .returned (.bool true) ∧ Below w.heap.size w w' := by
  obtain ⟨x1, c1, rfl, l1⟩ := ha.form
  have AL := Lib.hid (alive w hG)
  have GR := Lib.hid (greatD vb yss w hb)
  clear ha hb hG
  by_cases t1 : (600 : Int) < xs.length
  · go_enter Tryd.func3, Tryd.ntmps3
    go_wp2_with fail
    refine AL.out.mono ?_
    rintro e w1 ⟨rfl, hb⟩
    have HB := Lib.hid hb
    clear hb
    go_wp2_with fail
    go_ret
    exact ⟨rfl, HB.out⟩
  · have hg : greatB yss = true := by rcases h with h | h; omega; exact h
    rw [hg] at GR
    clear hg h
    go_enter Tryd.func3, Tryd.ntmps3
    go_wp2_with fail
    refine GR.out.mono ?_
    rintro e w1 ⟨rfl, rfl⟩
    go_wp2_with fail
    refine AL.out.mono ?_
    rintro e w1 ⟨rfl, hb⟩
    have HB := Lib.hid hb
    clear hb
    go_wp2_with fail
    go_ret
    exact ⟨rfl, HB.out⟩
set_option maxRecDepth 100000 in
set_option maxHeartbeats 8000000 in
theorem walk (va vb : Value) (xs : List Int) (yss : List (List Int)) (w : World) (hG : Glob w) (ha : Sees w va xs) (hb : SeesM w vb yss) (h1 : xs.length ≤ 600) (h2 : greatB yss = false) :
    Calls Tryd.prog 3 #[va, vb] w fun e w' => e = .returned (.bool true) ∧ Below w.heap.size w w' := by
  obtain ⟨x1, c1, rfl, l1⟩ := id ha.form
  have z27 := zv27
  obtain ⟨Z27, hZ27⟩ : ∃ Z, Z = bcells (List.replicate 32 0) := ⟨_, rfl⟩
  rw [← hZ27] at z27
  have h2w : 2 ≤ w.heap.size := by have := hG.lt; omega
  have hfl := great_flat h2
  have hbl : SeesL w vb yss := hb.few (by have := (greatB_no h2).1; omega)
  have hyb : Byt yss.flatten := seesL_byt hbl
  have GR := Lib.hid (greatD vb yss w hb)
  rw [h2] at GR
  have S1 : Hid (∀ W v, Glob W → Sees W v xs → Calls Tryd.prog 14 #[v] W fun e w' => e = .returned (.agg (bcells (sha xs))) ∧ Below W.heap.size W w') := fun W v hg hv => sum1 v _ W hv (by omega) hg
  have S2 : Hid (∀ W, Glob W → SeesL W vb yss → Calls Tryd.prog 15 #[vb] W fun e w' => e = .returned (.agg (bcells (sha yss.flatten))) ∧ Below W.heap.size W w') := fun W hg hv => both vb _ W hv (by omega) hg
  have D1 : Hid (∀ W v, Sees W v xs → Calls Tryd.prog 16 #[v] W (OwnP W (sha xs))) := fun W v hv => sumD v xs (by omega) W hv
  have D2 : Hid (∀ W v, Sees W v yss.flatten → Calls Tryd.prog 16 #[v] W (OwnP W (sha yss.flatten))) := fun W v hv => sumD v _ (by omega) W hv
  have DJ : Hid (∀ W, SeesL W vb yss → Calls Tryd.prog 17 #[vb] W (OwnP W yss.flatten)) := fun W hv => joinD vb yss W hv (by omega)
  have lA := sha_len xs ha.1
  have bA := sha_byt xs
  have lB := sha_len _ hyb
  have bB := sha_byt yss.flatten
  generalize sha xs = A at S1 D1 lA bA
  generalize sha yss.flatten = B at S2 D2 lB bB
  generalize yss.flatten = J at D2 DJ
  have IA := Lib.hid (show (Tryd.prog.info? 27).map (·.size) = some (bcells A).size by rw [i27, bsize, lA])
  have IB := Lib.hid (show (Tryd.prog.info? 27).map (·.size) = some (bcells B).size by rw [i27, bsize, lB])
  have ZA := Lib.hid (show Z27.size = (bcells A).size by rw [hZ27, bsize, bsize, lA, List.length_replicate])
  have ZB := Lib.hid (show Z27.size = (bcells B).size by rw [hZ27, bsize, bsize, lB, List.length_replicate])
  have OA := Lib.hid (bone A)
  have OB := Lib.hid (bone B)
  have LA := Lib.hid lA
  have LB := Lib.hid lB
  have BA := Lib.hid bA
  have BB := Lib.hid bB
  have HA := Lib.hid ha
  have HBB := Lib.hid hbl
  have HGL := Lib.hid hG
  have H2W := Lib.hid h2w
  have t1 : ¬ (600 : Int) < xs.length := by omega
  have sl := all27
  clear ha hb hbl hyb hG h2w h1 h2 hfl hZ27 lA bA lB bB
  go_enter Tryd.func3, Tryd.ntmps3
  go_wp2_with fail
  refine GR.out.mono ?_
  rintro e w1 ⟨rfl, rfl⟩
  go_wp2_with fail
  refine (S1.out _ _ HGL.out HA.out).mono ?_
  rintro e w1 ⟨rfl, hb⟩
  have B1 := Lib.hid hb
  clear hb
  go_wp2_with fail
  refine (S2.out _ (HGL.out.below B1.out H2W.out) (HBB.out.below B1.out)).mono ?_
  rintro e w2 ⟨rfl, hb⟩
  have B2 : Hid (Below w.heap.size w w2) := B1.out.trans (hb.mono B1.out.size)
  clear hb B1
  have g0 : ((w2.alloc (.cells Z27 27)).alloc (.cells Z27 27)).heap[w2.heap.size]? = some (.cells Z27 27 (0, 0)) := by
    rw [Below.heap_alloc _ _ _ (by simp)]; exact heap_alloc_new w2 _
  have g1 : (((w2.alloc (.cells Z27 27)).alloc (.cells Z27 27)).setRow w2.heap.size (bcells A)).heap[w2.heap.size + 1]? = some (.cells Z27 27 (0, 0)) := by
    rw [setRow_other _ _ _ _ (by omega)]; exact heap_alloc2_new w2 _ _
  have G0 := Lib.hid g0
  have G1 := Lib.hid g1
  clear g0 g1
  go_wp2_with (first
    | (refine wpList_store_row rfl 27 (.tmp 5) (.tmp 16) rfl w2.heap.size (bcells A) rfl rfl 27 Z27 G0.out IA.out ZA.out OA.out ?_)
    | (refine wpList_store_row rfl 27 (.tmp 6) (.tmp 18) rfl (w2.heap.size + 1) (bcells B) rfl rfl 27 Z27 G1.out IB.out ZB.out OB.out ?_))
  have rA : Row27 ((((w2.alloc (.cells Z27 27)).alloc (.cells Z27 27)).setRow w2.heap.size (bcells A)).setRow (w2.heap.size + 1) (bcells B)) w2.heap.size A := by
    unfold Row27
    rw [setRow_other _ _ _ _ (by omega)]; exact setRow_heap _ _ _ _ _ _ G0.out
  have rB : Row27 ((((w2.alloc (.cells Z27 27)).alloc (.cells Z27 27)).setRow w2.heap.size (bcells A)).setRow (w2.heap.size + 1) (bcells B)) (w2.heap.size + 1) B := setRow_heap _ _ _ _ _ _ G1.out
  have b3 : Below w.heap.size w ((((w2.alloc (.cells Z27 27)).alloc (.cells Z27 27)).setRow w2.heap.size (bcells A)).setRow (w2.heap.size + 1) (bcells B)) :=
    ((((B2.out.alloc B2.out.size _).alloc (by have := B2.out.size; simp; omega) _).trans (below_row _ _ B2.out.size)).trans (below_row _ _ (by have := B2.out.size; omega)))
  generalize ((((w2.alloc (.cells Z27 27)).alloc (.cells Z27 27)).setRow w2.heap.size (bcells A)).setRow (w2.heap.size + 1) (bcells B)) = w3 at rA rB b3 ⊢
  have RA := Lib.hid (sees27 rA LA.out BA.out)
  have RB := Lib.hid (sees27 rB LB.out BB.out)
  have B3 := Lib.hid b3
  clear rA rB b3 G0 G1
  generalize w2.heap.size = ga at *
  refine wp_region_held_drew (S := fun W => Below w3.heap.size w3 W) (by kernel_rfl) (Below.refl _ _).drew (fun hS => ?_)
  refine wpAnyH_ready (rs := [0]) (by kernel_rfl) (by simp) ?_
  refine' AllReadyH.cons ?hoc0p (fun K hK => ?stc0p) AllReadyH.nil
  case hoc0p => (simp only [List.getElem?_toArray, List.getElem?_cons_zero]; rfl)
  go_simp
  refine (alive _ (HGL.out.below (B3.out.trans (hS.mono B3.out.size)) H2W.out)).mono ?_
  rintro e wa ⟨rfl, hb⟩
  go_wp2_with fail
  refine hK.out _ _ (hS.trans (hb.mono hS.size)) (fun hHeld => ?_)
  clear hK K
  try simp only [Act.put, List.setIfInBounds_toArray, List.set_cons_succ, List.set_cons_zero]
  clear hS hb
  have hS := hHeld
  clear hHeld
  refine' wpAnyH_take (i := 1) ?h1x1p ?hsx1p ?hfx1p ?hrx1p ?hQx1p (Or.inl ⟨?hwx1p, ?hyx1p⟩) hS ?restx1p
  case h1x1p => (simp only [List.getElem?_toArray, List.getElem?_cons_succ, List.getElem?_cons_zero]; rfl)
  case hsx1p => kernel_rfl
  case hfx1p => kernel_rfl
  case hrx1p => kernel_rfl
  case hQx1p => exact fun _ _ _ h => h
  case hwx1p => rfl
  case hyx1p =>
    intro W hW
    go_simp
    try with_reducible rfl
  simp only [Act.put, List.setIfInBounds_toArray, List.set_cons_succ, List.set_cons_zero]
  refine' wpAnyH_take (i := 2) ?h1x2p ?hsx2p ?hfx2p ?hrx2p ?hQx2p (Or.inl ⟨?hwx2p, ?hyx2p⟩) hS ?restx2p
  case h1x2p => (simp only [List.getElem?_toArray, List.getElem?_cons_succ, List.getElem?_cons_zero]; rfl)
  case hsx2p => kernel_rfl
  case hfx2p => kernel_rfl
  case hrx2p => kernel_rfl
  case hQx2p => exact fun _ _ _ h => h
  case hwx2p => rfl
  case hyx2p =>
    intro W hW
    go_simp
    try with_reducible rfl
  simp only [Act.put, List.setIfInBounds_toArray, List.set_cons_succ, List.set_cons_zero]
  refine' wpAnyH_take (i := 3) ?h1x3p ?hsx3p ?hfx3p ?hrx3p ?hQx3p (Or.inl ⟨?hwx3p, ?hyx3p⟩) hS ?restx3p
  case h1x3p => (simp only [List.getElem?_toArray, List.getElem?_cons_succ, List.getElem?_cons_zero]; rfl)
  case hsx3p => kernel_rfl
  case hfx3p => kernel_rfl
  case hrx3p => kernel_rfl
  case hQx3p => exact fun _ _ _ h => h
  case hwx3p => rfl
  case hyx3p =>
    intro W hW
    have cs := (RA.out.below hW).str
    go_simp
    try with_reducible rfl
  simp only [Act.put, List.setIfInBounds_toArray, List.set_cons_succ, List.set_cons_zero]
  refine' wpAnyH_take (i := 4) ?h1x4p ?hsx4p ?hfx4p ?hrx4p ?hQx4p (Or.inl ⟨?hwx4p, ?hyx4p⟩) hS ?restx4p
  case h1x4p => (simp only [List.getElem?_toArray, List.getElem?_cons_succ, List.getElem?_cons_zero]; rfl)
  case hsx4p => kernel_rfl
  case hfx4p => kernel_rfl
  case hrx4p => kernel_rfl
  case hQx4p => exact fun _ _ _ h => h
  case hwx4p => rfl
  case hyx4p =>
    intro W hW
    go_simp
    try with_reducible rfl
  simp only [Act.put, List.setIfInBounds_toArray, List.set_cons_succ, List.set_cons_zero]
  refine wpAnyH_ready (rs := [5]) (by kernel_rfl) (by simp) ?_
  refine' AllReadyH.cons ?hoc5p (fun K hK => ?stc5p) AllReadyH.nil
  case hoc5p => (simp only [List.getElem?_toArray, List.getElem?_cons_succ, List.getElem?_cons_zero]; rfl)
  go_simp
  refine (D1.out _ _ (HA.out.below (B3.out.trans (hS.mono B3.out.size)))).mono ?_
  rintro e w5 ⟨x5, c5, rfl, ho5, hb⟩
  go_wp2_with fail
  refine hK.out _ _ (hS.trans (hb.mono hS.size)) (fun hHeld => ?_)
  clear hK K
  try simp only [Act.put, List.setIfInBounds_toArray, List.set_cons_succ, List.set_cons_zero]
  have B35 := Lib.hid hHeld
  refine more (S' := fun W => Below w5.heap.size w5 W) (fun W hW => B35.out.trans (hW.mono B35.out.size)) _ _ _ _ ?_
  have RS5 := Lib.hid ho5.sees
  have RB5 := Lib.hid (RB.out.below B35.out)
  have B05 : Hid (Below w.heap.size w w5) := B3.out.trans (B35.out.mono B3.out.size)
  clear ho5
  clear hS hb hHeld
  have hS : Below w5.heap.size w5 w5 := Below.refl _ _
  refine' wpAnyH_take (i := 6) ?h1x6p ?hsx6p ?hfx6p ?hrx6p ?hQx6p (Or.inl ⟨?hwx6p, ?hyx6p⟩) hS ?restx6p
  case h1x6p => (simp only [List.getElem?_toArray, List.getElem?_cons_succ, List.getElem?_cons_zero]; rfl)
  case hsx6p => kernel_rfl
  case hfx6p => kernel_rfl
  case hrx6p => kernel_rfl
  case hQx6p => exact fun _ _ _ h => h
  case hwx6p => rfl
  case hyx6p =>
    intro W hW
    have cs := (RS5.out.below hW).str
    go_simp
    try with_reducible rfl
  simp only [Act.put, List.setIfInBounds_toArray, List.set_cons_succ, List.set_cons_zero]
  refine' wpAnyH_take (i := 7) ?h1x7p ?hsx7p ?hfx7p ?hrx7p ?hQx7p (Or.inl ⟨?hwx7p, ?hyx7p⟩) hS ?restx7p
  case h1x7p => (simp only [List.getElem?_toArray, List.getElem?_cons_succ, List.getElem?_cons_zero]; rfl)
  case hsx7p => kernel_rfl
  case hfx7p => kernel_rfl
  case hrx7p => kernel_rfl
  case hQx7p => exact fun _ _ _ h => h
  case hwx7p => rfl
  case hyx7p =>
    intro W hW
    go_simp
    try with_reducible rfl
  simp only [Act.put, List.setIfInBounds_toArray, List.set_cons_succ, List.set_cons_zero]
  refine' wpAnyH_take (i := 8) ?h1x8p ?hsx8p ?hfx8p ?hrx8p ?hQx8p (Or.inl ⟨?hwx8p, ?hyx8p⟩) hS ?restx8p
  case h1x8p => (simp only [List.getElem?_toArray, List.getElem?_cons_succ, List.getElem?_cons_zero]; rfl)
  case hsx8p => kernel_rfl
  case hfx8p => kernel_rfl
  case hrx8p => kernel_rfl
  case hQx8p => exact fun _ _ _ h => h
  case hwx8p => rfl
  case hyx8p =>
    intro W hW
    go_simp
    try with_reducible rfl
  simp only [Act.put, List.setIfInBounds_toArray, List.set_cons_succ, List.set_cons_zero]
  refine' wpAnyH_take (i := 9) ?h1x9p ?hsx9p ?hfx9p ?hrx9p ?hQx9p (Or.inl ⟨?hwx9p, ?hyx9p⟩) hS ?restx9p
  case h1x9p => (simp only [List.getElem?_toArray, List.getElem?_cons_succ, List.getElem?_cons_zero]; rfl)
  case hsx9p => kernel_rfl
  case hfx9p => kernel_rfl
  case hrx9p => kernel_rfl
  case hQx9p => exact fun _ _ _ h => h
  case hwx9p => rfl
  case hyx9p =>
    intro W hW
    go_simp
    try with_reducible rfl
  simp only [Act.put, List.setIfInBounds_toArray, List.set_cons_succ, List.set_cons_zero]
  refine' wpAnyH_take (i := 10) ?h1x10p ?hsx10p ?hfx10p ?hrx10p ?hQx10p (Or.inl ⟨?hwx10p, ?hyx10p⟩) hS ?restx10p
  case h1x10p => (simp only [List.getElem?_toArray, List.getElem?_cons_succ, List.getElem?_cons_zero]; rfl)
  case hsx10p => kernel_rfl
  case hfx10p => kernel_rfl
  case hrx10p => kernel_rfl
  case hQx10p => exact fun _ _ _ h => h
  case hwx10p => rfl
  case hyx10p =>
    intro W hW
    go_simp
    try with_reducible rfl
  simp only [Act.put, List.setIfInBounds_toArray, List.set_cons_succ, List.set_cons_zero]
  refine' wpAnyH_take (i := 11) ?h1x11p ?hsx11p ?hfx11p ?hrx11p ?hQx11p (Or.inl ⟨?hwx11p, ?hyx11p⟩) hS ?restx11p
  case h1x11p => (simp only [List.getElem?_toArray, List.getElem?_cons_succ, List.getElem?_cons_zero]; rfl)
  case hsx11p => kernel_rfl
  case hfx11p => kernel_rfl
  case hrx11p => kernel_rfl
  case hQx11p => exact fun _ _ _ h => h
  case hwx11p => rfl
  case hyx11p =>
    intro W hW
    have cs := (RB5.out.below hW).str
    go_simp
    try with_reducible rfl
  simp only [Act.put, List.setIfInBounds_toArray, List.set_cons_succ, List.set_cons_zero]
  refine' wpAnyH_take (i := 12) ?h1x12p ?hsx12p ?hfx12p ?hrx12p ?hQx12p (Or.inl ⟨?hwx12p, ?hyx12p⟩) hS ?restx12p
  case h1x12p => (simp only [List.getElem?_toArray, List.getElem?_cons_succ, List.getElem?_cons_zero]; rfl)
  case hsx12p => kernel_rfl
  case hfx12p => kernel_rfl
  case hrx12p => kernel_rfl
  case hQx12p => exact fun _ _ _ h => h
  case hwx12p => rfl
  case hyx12p =>
    intro W hW
    go_simp
    try with_reducible rfl
  simp only [Act.put, List.setIfInBounds_toArray, List.set_cons_succ, List.set_cons_zero]
  refine wpAnyH_ready (rs := [13]) (by kernel_rfl) (by simp) ?_
  refine' AllReadyH.cons ?hoc13p (fun K hK => ?stc13p) AllReadyH.nil
  case hoc13p => (simp only [List.getElem?_toArray, List.getElem?_cons_succ, List.getElem?_cons_zero]; rfl)
  go_simp
  refine (DJ.out _ (HBB.out.below (B05.out.trans (hS.mono B05.out.size)))).mono ?_
  rintro e w6 ⟨x6, c6, rfl, ho6, hb⟩
  go_wp2_with fail
  refine hK.out _ _ (hS.trans (hb.mono hS.size)) (fun hHeld => ?_)
  clear hK K
  try simp only [Act.put, List.setIfInBounds_toArray, List.set_cons_succ, List.set_cons_zero]
  have B56 := Lib.hid hHeld
  refine more (S' := fun W => Below w6.heap.size w6 W) (fun W hW => B56.out.trans (hW.mono B56.out.size)) _ _ _ _ ?_
  have RJ6 := Lib.hid ho6.sees
  have B06 : Hid (Below w.heap.size w w6) := B05.out.trans (B56.out.mono B05.out.size)
  clear ho6
  clear hS hb hHeld
  have hS : Below w6.heap.size w6 w6 := Below.refl _ _
  refine wpAnyH_ready (rs := [14]) (by kernel_rfl) (by simp) ?_
  refine' AllReadyH.cons ?hoc14p (fun K hK => ?stc14p) AllReadyH.nil
  case hoc14p => (simp only [List.getElem?_toArray, List.getElem?_cons_succ, List.getElem?_cons_zero]; rfl)
  go_simp
  refine (D2.out _ _ (RJ6.out.below hS)).mono ?_
  rintro e w7 ⟨x7, c7, rfl, ho7, hb⟩
  go_wp2_with fail
  refine hK.out _ _ (hS.trans (hb.mono hS.size)) (fun hHeld => ?_)
  clear hK K
  try simp only [Act.put, List.setIfInBounds_toArray, List.set_cons_succ, List.set_cons_zero]
  have B67 := Lib.hid hHeld
  refine more (S' := fun W => Below w7.heap.size w7 W) (fun W hW => B67.out.trans (hW.mono B67.out.size)) _ _ _ _ ?_
  have RS7 := Lib.hid ho7.sees
  have B07 : Hid (Below w.heap.size w w7) := B06.out.trans (B67.out.mono B06.out.size)
  clear ho7
  clear hS hb hHeld
  have hS : Below w7.heap.size w7 w7 := Below.refl _ _
  refine' wpAnyH_take (i := 15) ?h1x15p ?hsx15p ?hfx15p ?hrx15p ?hQx15p (Or.inl ⟨?hwx15p, ?hyx15p⟩) hS ?restx15p
  case h1x15p => (simp only [List.getElem?_toArray, List.getElem?_cons_succ, List.getElem?_cons_zero]; rfl)
  case hsx15p => kernel_rfl
  case hfx15p => kernel_rfl
  case hrx15p => kernel_rfl
  case hQx15p => exact fun _ _ _ h => h
  case hwx15p => rfl
  case hyx15p =>
    intro W hW
    have cs := (RS7.out.below hW).str
    go_simp
    try with_reducible rfl
  simp only [Act.put, List.setIfInBounds_toArray, List.set_cons_succ, List.set_cons_zero]
  refine' wpAnyH_take (i := 16) ?h1x16p ?hsx16p ?hfx16p ?hrx16p ?hQx16p (Or.inl ⟨?hwx16p, ?hyx16p⟩) hS ?restx16p
  case h1x16p => (simp only [List.getElem?_toArray, List.getElem?_cons_succ, List.getElem?_cons_zero]; rfl)
  case hsx16p => kernel_rfl
  case hfx16p => kernel_rfl
  case hrx16p => kernel_rfl
  case hQx16p => exact fun _ _ _ h => h
  case hwx16p => rfl
  case hyx16p =>
    intro W hW
    go_simp
    try with_reducible rfl
  simp only [Act.put, List.setIfInBounds_toArray, List.set_cons_succ, List.set_cons_zero]
  refine' wpAnyH_take (i := 17) ?h1x17p ?hsx17p ?hfx17p ?hrx17p ?hQx17p (Or.inl ⟨?hwx17p, ?hyx17p⟩) hS ?restx17p
  case h1x17p => (simp only [List.getElem?_toArray, List.getElem?_cons_succ, List.getElem?_cons_zero]; rfl)
  case hsx17p => kernel_rfl
  case hfx17p => kernel_rfl
  case hrx17p => kernel_rfl
  case hQx17p => exact fun _ _ _ h => h
  case hwx17p => rfl
  case hyx17p =>
    intro W hW
    go_simp
    try with_reducible rfl
  simp only [Act.put, List.setIfInBounds_toArray, List.set_cons_succ, List.set_cons_zero]
  refine' wpAnyH_take (i := 18) ?h1x18p ?hsx18p ?hfx18p ?hrx18p ?hQx18p (Or.inl ⟨?hwx18p, ?hyx18p⟩) hS ?restx18p
  case h1x18p => (simp only [List.getElem?_toArray, List.getElem?_cons_succ, List.getElem?_cons_zero]; rfl)
  case hsx18p => kernel_rfl
  case hfx18p => kernel_rfl
  case hrx18p => kernel_rfl
  case hQx18p => exact fun _ _ _ h => h
  case hwx18p => rfl
  case hyx18p =>
    intro W hW
    go_simp
    try with_reducible rfl
  simp only [Act.put, List.setIfInBounds_toArray, List.set_cons_succ, List.set_cons_zero]
  refine wpAnyH_done (by kernel_rfl) ?_ _
  go_wp2_with fail
  go_ret
  exact ⟨rfl, B07.out.trans (hS.mono B07.out.size)⟩
theorem walkI (va vb : Value) (xs : List Int) (yss : List (List Int)) (w : World) (hG : Glob w) (ha : Sees w va xs) (hb : SeesM w vb yss) :
    Calls Tryd.prog 3 #[va, vb] w fun e w' => e = .returned (.bool true) ∧ Below w.heap.size w w' := by
  by_cases h : 600 < xs.length ∨ greatB yss = true
  · exact walk_great va vb xs yss w hG ha hb h
  · exact walk va vb xs yss w hG ha hb (by omega) (by cases e : greatB yss with | false => rfl | true => exact absurd (.inr e) h)

set_option maxRecDepth 100000 in
theorem lifted (os : Os) (started : os.Started) (H : Type) (enc : TypeId × Value → H) :
    ReturnsInHanded {} Tryd.checked os 3 .any (fun w args => (Rows.shaSumsSpec.pre enc Tryd.prog Tryd.f3 [] false w args ∧ laidMetH Tryd.prog laid2 w) ∧ sizedMet enc Tryd.prog Tryd.f3 (OpenSpec.ofChange Rows.shaSumsSpec) false w args)
      (Rows.shaSumsSpec.post enc Tryd.prog Tryd.f3 false true false false) := by
  refine returnsInHanded_of_change_and (C := Tryd.checked) (X := fun w _ => laidMetH Tryd.prog laid2 w) (fun _ _ _ hh h => h.of_heap hh) own started (by kernel_rfl) Tryd.func3
    (ChangeSpec.witness_shaped (enc := enc) (C := Tryd.checked) (os := os) (X := fun w _ => laidMetH Tryd.prog laid2 w) false (World.doorLaid Tryd.prog 400 os) #[.slice none 0 0, .slice none 0 0] 8 rfl (World.shaped_of_RefB (by kernel_rfl) (by kernel_rfl)) (by kernel_rfl) (by kernel_rfl) (by kernel_rfl) (door_met os _)) ?_
  intro W base args ds gs before hval0 hW _ _ hL _
  have hval : ∀ (j : Nat) t v, Tryd.f3.params[j]? = some t → args[j]? = some v → Value.okWide Tryd.prog W .any base t v := hval0
  have hW' := hW
  obtain ⟨p, q, hA0, hV, rfl, hfz, hnd⟩ := hW
  have hA : DataW.TrodAll enc Tryd.prog W 0 (fun _ => true) true Tryd.f3.params.toList args.toList ds p := hA0
  rw [Tryd.params3] at hA hval
  obtain ⟨v0, vs0, d0, ds0, p0, q0, hargs, rfl, rfl, h0, r0⟩ := trodAll_cons hA
  obtain ⟨v1, vs1, d1, ds1, p1, q1, rfl, rfl, rfl, h1, r1⟩ := trodAll_cons r0
  obtain ⟨rfl, rfl, rfl⟩ := trodAll_nil r1
  obtain rfl : args = #[v0, v1] := by cases args; simp_all
  obtain ⟨rfl, rfl⟩ := trodVars_none hV
  obtain ⟨x0, s0⟩ := open_sees (hval 0 22 v0 rfl rfl) h0
  obtain ⟨x1, s1⟩ := open_texts (hval 1 23 v1 rfl rfl) h1
  refine (walkI v0 v1 x0 x1 W (of_laid hL) s0 s1).mono fun e W' ⟨he, hb⟩ => ?_
  subst he
  exact ⟨_, rfl, law_post hW' rfl rfl rfl (by kernel_rfl) hb⟩
/-- The row's statement. -/
theorem row_holds : Rows.ShaSumsSaid :=
  OpenClaim.holds_of_wide 3 Tryd.f3 rfl rfl rfl rfl rfl rfl rfl ⟨rfl, rfl, rfl, rfl, rfl⟩ rfl rfl rfl rfl rfl (by kernel_rfl) Tryd.func3 (by kernel_rfl)
    (of_decide_eq_true (by kernel_rfl)) (by unfold Func.isWrapper; first | (rw [if_pos (by decide +kernel)]; kernel_rfl) | (rw [if_neg (by decide +kernel)]; exact ⟨rfl, rfl⟩))
    (fun os started H enc _ => lifted os started H enc)
/-- The tied card. -/
theorem proved : Rows.ShaSumsCardSaid :=
  Claim7.holds_tied_plain_at .later [] [.data, .data] true (true, "c1a692658ed27d6b705437531a4023b4f004fc9067d80523147904b9ccf5c916") false
    row_holds (fun _ h => by cases h) (by kernel_rfl) (fun _ h => by cases h) shaSums_row_tie rfl ⟨rfl, rfl⟩ (by kernel_rfl) rfl
    (fun f fn hf hfn => by
      obtain rfl : f = 3 := Option.some.inj ((show Tryd.prog.funcNamed "casemate/casematelaw02.ShaSums" = some 3 by kernel_rfl).symm.trans hf) |>.symm
      obtain rfl : fn = Tryd.f3 := (Option.some.inj (Tryd.func3.symm.trans hfn)).symm
      exact ⟨by kernel_rfl, fun j t ht => by
        rw [Tryd.params3] at ht
        have hm : t ∈ [22, 23] := by simpa using Array.mem_of_getElem? ht
        have hall : ([22, 23].all fun u => !Tryd.prog.wantsStandIn u) = true := by kernel_rfl
        exact (show Tryd.prog.wantsStandIn t = false by simpa using List.all_eq_true.1 hall t hm)⟩)
    (by kernel_rfl)
#print axioms proved
end Go.Proofs.YtmkaagiabafooaaDoor.shaSums
