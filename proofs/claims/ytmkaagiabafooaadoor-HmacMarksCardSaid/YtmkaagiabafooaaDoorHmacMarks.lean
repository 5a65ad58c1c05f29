/-
  For all keys, texts and marks the law HmacMarks of package casematelaw03 returns true, and they read afterwards as before: marks are the document's, and what is right is told. Condition: the two tables of package sha read, when the call begins, as their declarations lay them (the card ties that to the program's text).
-/
import Derived.Test.YtmkaagiabafooaaDoorRefM
import Derived.Test.YtmkaagiabafooaaDoorLaid
namespace Go.Proofs.YtmkaagiabafooaaDoor.hmacMarks
open Go.ChangeShapes Go.WideShapes Go.ChangeAt Go.RowKit
set_option maxRecDepth 100000 in
set_option maxHeartbeats 4000000 in
theorem walk_great (va vb vm : Value) (k b m : List Int) (w : World) (hG : Glob w) (ha : Sees w va k) (hb : Sees w vb b) (hm : Sees w vm m) (h : 200 < k.length ∨ 300 < b.length ∨ 100 < m.length) :
    Calls Tryd.prog 7 #[va, vb, vm] w fun e w' => e = .returned (.bool true) ∧ Below w.heap.size w w' := by
  obtain ⟨x1, c1, rfl, l1⟩ := ha.form
  obtain ⟨x2, c2, rfl, l2⟩ := hb.form
  obtain ⟨x3, c3, rfl, l3⟩ := hm.form
  have AL := Lib.hid (alivc w hG)
  clear ha hb hm hG
  by_cases t0 : (200 : Int) < k.length
  · skip
    go_enter Tryd.func7, Tryd.ntmps7
    go_wp2_with fail
    refine AL.out.mono ?_
    rintro e w1 ⟨rfl, hb⟩
    have HB := Lib.hid hb
    clear hb
    go_wp2_with fail
    go_ret
    exact ⟨rfl, HB.out⟩
  · skip
    by_cases t1 : (300 : Int) < b.length
    · skip
      go_enter Tryd.func7, Tryd.ntmps7
      go_wp2_with fail
      refine AL.out.mono ?_
      rintro e w1 ⟨rfl, hb⟩
      have HB := Lib.hid hb
      clear hb
      go_wp2_with fail
      go_ret
      exact ⟨rfl, HB.out⟩
    · skip
      have t2 : (100 : Int) < m.length := by omega
      go_enter Tryd.func7, Tryd.ntmps7
      go_wp2_with fail
      refine AL.out.mono ?_
      rintro e w1 ⟨rfl, hb⟩
      have HB := Lib.hid hb
      clear hb
      go_wp2_with fail
      go_ret
      exact ⟨rfl, HB.out⟩
set_option maxRecDepth 100000 in
set_option maxHeartbeats 8000000 in
theorem walk (va vb vm : Value) (k b m : List Int) (w : World) (hG : Glob w) (ha : Sees w va k) (hb : Sees w vb b) (hm : Sees w vm m) (h1 : k.length ≤ 200) (h2 : b.length ≤ 300) (h3 : m.length ≤ 100) :
    Calls Tryd.prog 7 #[va, vb, vm] w fun e w' => e = .returned (.bool true) ∧ Below w.heap.size w w' := by
  obtain ⟨x1, c1, rfl, l1⟩ := id ha.form
  obtain ⟨x2, c2, rfl, l2⟩ := id hb.form
  obtain ⟨x3, c3, rfl, l3⟩ := id hm.form
  have z27 := zv27
  have z48 : ∀ w, (zeroValue 48).run Tryd.prog w = .ok (.agg (bcells (List.replicate 32 0))) w := fun _ => by kernel_rfl
  obtain ⟨Z27, hZ27⟩ : ∃ Z, Z = bcells (List.replicate 32 0) := ⟨_, rfl⟩
  rw [← hZ27] at z27 z48
  have h2w : 2 ≤ w.heap.size := by have := hG.lt; omega
  have MK : Hid (∀ W, Glob W → Sees W (.slice x1 k.length c1) k → Sees W (.slice x2 b.length c2) b → Calls Tryd.prog 22 #[.slice x1 k.length c1, .slice x2 b.length c2] W fun e w' => e = .returned (.agg (bcells (mac k b))) ∧ Below W.heap.size W w') := fun W hg h4 h5 => macc _ _ _ _ W h4 h5 (by omega) (by omega) hg
  have EX : Hid (∀ W, Glob W → Sees W (.slice x1 k.length c1) k → Sees W (.slice x2 b.length c2) b → Calls Tryd.prog 23 #[.slice x1 k.length c1, .slice x2 b.length c2] W fun e w' => e = .returned (.agg (bcells (mac k b))) ∧ Below W.heap.size W w') := fun W hg h4 h5 => extract _ _ _ _ W h4 h5 (by omega) (by omega) hg
  have MD : Hid (∀ W, Sees W (.slice x1 k.length c1) k → Sees W (.slice x2 b.length c2) b → Calls Tryd.prog 24 #[.slice x1 k.length c1, .slice x2 b.length c2] W (OwnP W (mac k b))) := fun W h4 h5 => macD _ _ _ _ W h4 h5 (by omega) (by omega)
  have RT : Hid (∀ W vm m, Glob W → Sees W (.slice x1 k.length c1) k → Sees W (.slice x2 b.length c2) b → Sees W vm m → Calls Tryd.prog 25 #[.slice x1 k.length c1, .slice x2 b.length c2, vm] W fun e w' => e = .returned (.bool (decide (mac k b = m))) ∧ Below W.heap.size W w') := fun W vm m hg h4 h5 h6 => right _ _ _ _ _ _ W h4 h5 h6 (by omega) (by omega) hg
  have lA := mac_len k b ha.1
  have bA := mac_byt k b
  generalize mac k b = A at MK EX MD RT lA bA
  have IA := Lib.hid (show (Tryd.prog.info? 27).map (·.size) = some (bcells A).size by rw [i27, bsize, lA])
  have IB := Lib.hid (i48' A lA)
  have ZA := Lib.hid (show Z27.size = (bcells A).size by rw [hZ27, bsize, bsize, lA, List.length_replicate])
  have OA := Lib.hid (bone A)
  have LA := Lib.hid lA
  have BA := Lib.hid bA
  obtain ⟨d, hd⟩ : ∃ d, d = decide (A = m) := ⟨_, rfl⟩
  have RM : Hid (∀ W, Glob W → Sees W (.slice x1 k.length c1) k → Sees W (.slice x2 b.length c2) b → Sees W (.slice x3 m.length c3) m → Calls Tryd.prog 25 #[.slice x1 k.length c1, .slice x2 b.length c2, .slice x3 m.length c3] W fun e w' => e = .returned (.bool d) ∧ Below W.heap.size W w') := fun W hg h4 h5 h6 => by
    rw [hd]; exact RT.out W _ m hg h4 h5 h6
  have RW : Hid (∀ W vm, Glob W → Sees W (.slice x1 k.length c1) k → Sees W (.slice x2 b.length c2) b → Sees W vm A → Calls Tryd.prog 25 #[.slice x1 k.length c1, .slice x2 b.length c2, vm] W fun e w' => e = .returned (.bool true) ∧ Below W.heap.size W w') := fun W vm hg h4 h5 h6 => by
    have := RT.out W vm A hg h4 h5 h6
    rw [show decide (A = A) = true by simp] at this; exact this
  have SQ1 : Hid (((strOfNums m).toList == (strOfNums A).toList) = d) := by
    show _ = _
    rw [str_eq m A hm.1 bA, hd]
    by_cases e : A = m
    · subst e; rfl
    · rw [decide_eq_false e, decide_eq_false (fun h => e h.symm)]
  have HA := Lib.hid ha
  have HBB := Lib.hid hb
  have HM := Lib.hid hm
  have HGL := Lib.hid hG
  have H2W := Lib.hid h2w
  have t1 : ¬ (200 : Int) < k.length := by omega
  have t2 : ¬ (300 : Int) < b.length := by omega
  have t3 : ¬ (100 : Int) < m.length := by omega
  have sl := arr32_all
  have sk := key_all
  clear ha hb hm hG h2w h1 h2 h3 hZ27 lA bA hd RT
  go_enter Tryd.func7, Tryd.ntmps7
  go_wp2_with fail
  refine (MK.out _ HGL.out HA.out HBB.out).mono ?_
  rintro e w1 ⟨rfl, hb⟩
  have B1 := Lib.hid hb
  clear hb
  go_wp2_with fail
  refine (EX.out _ (HGL.out.below B1.out H2W.out) (HA.out.below B1.out) (HBB.out.below B1.out)).mono ?_
  rintro e w2 ⟨rfl, hb⟩
  have B2 : Hid (Below w.heap.size w w2) := B1.out.trans (hb.mono B1.out.size)
  clear hb B1
  have g0 : ((w2.alloc (.cells Z27 27)).alloc (.cells Z27 48)).heap[w2.heap.size]? = some (.cells Z27 27 (0, 0)) := by
    rw [Below.heap_alloc _ _ _ (by simp)]; exact heap_alloc_new w2 _
  have g1 : (((w2.alloc (.cells Z27 27)).alloc (.cells Z27 48)).setRow w2.heap.size (bcells A)).heap[w2.heap.size + 1]? = some (.cells Z27 48 (0, 0)) := by
    rw [setRow_other _ _ _ _ (by omega)]; exact heap_alloc2_new w2 _ _
  have G0 := Lib.hid g0
  have G1 := Lib.hid g1
  clear g0 g1
  go_wp2_with (first
    | (refine wpList_store_row rfl 27 (.tmp 7) (.tmp 26) rfl w2.heap.size (bcells A) rfl rfl 27 Z27 G0.out IA.out ZA.out OA.out ?_)
    | (refine wpList_store_row rfl 48 (.tmp 8) (.tmp 29) rfl (w2.heap.size + 1) (bcells A) rfl rfl 48 Z27 G1.out IB.out ZA.out OA.out ?_))
  have rA : ((((w2.alloc (.cells Z27 27)).alloc (.cells Z27 48)).setRow w2.heap.size (bcells A)).setRow (w2.heap.size + 1) (bcells A)).heap[w2.heap.size]? = some (.cells (bcells A) 27 (0, 0)) := by
    rw [setRow_other _ _ _ _ (by omega)]; exact setRow_heap _ _ _ _ _ _ G0.out
  have rB : ((((w2.alloc (.cells Z27 27)).alloc (.cells Z27 48)).setRow w2.heap.size (bcells A)).setRow (w2.heap.size + 1) (bcells A)).heap[w2.heap.size + 1]? = some (.cells (bcells A) 48 (0, 0)) := setRow_heap _ _ _ _ _ _ G1.out
  have b3 : Below w.heap.size w ((((w2.alloc (.cells Z27 27)).alloc (.cells Z27 48)).setRow w2.heap.size (bcells A)).setRow (w2.heap.size + 1) (bcells A)) :=
    ((((B2.out.alloc B2.out.size _).alloc (by have := B2.out.size; simp; omega) _).trans (below_row _ _ B2.out.size)).trans (below_row _ _ (by have := B2.out.size; omega)))
  generalize ((((w2.alloc (.cells Z27 27)).alloc (.cells Z27 48)).setRow w2.heap.size (bcells A)).setRow (w2.heap.size + 1) (bcells A)) = w3 at rA rB b3 ⊢
  have RA := Lib.hid (row_sees rA LA.out BA.out)
  have RB := Lib.hid (row_sees rB LA.out BA.out)
  have B3 := Lib.hid b3
  clear rA rB b3 G0 G1
  refine (MD.out _ (HA.out.below B3.out) (HBB.out.below B3.out)).mono ?_
  rintro e w4 ⟨x4, c4, rfl, ho4, hb⟩
  have RA4 := Lib.hid (RA.out.below hb)
  have RB4 := Lib.hid (RB.out.below hb)
  have RW4 := Lib.hid ho4.sees
  have B4 : Hid (Below w.heap.size w w4) := B3.out.trans (hb.mono B3.out.size)
  clear hb ho4 RA RB B3
  go_wp2_with fail
  generalize w2.heap.size = ga at *
  have sq := SQ1.out
  refine wp_region_held_drew (S := fun W => Below w4.heap.size w4 W) (by kernel_rfl) (Below.refl _ _).drew (fun hS => ?_)
  refine wpAnyH_ready (rs := [0]) (by kernel_rfl) (by simp) ?_
  refine' AllReadyH.cons ?hoc0p (fun K hK => ?stc0p) AllReadyH.nil
  case hoc0p => (simp only [List.getElem?_toArray, List.getElem?_cons_zero]; rfl)
  go_simp
  refine (alivc _ (HGL.out.below (B4.out.trans (hS.mono B4.out.size)) H2W.out)).mono ?_
  rintro e wa ⟨rfl, hb⟩
  go_wp2_with fail
  refine hK.out _ _ (hS.trans (hb.mono hS.size)) (fun hHeld => ?_)
  clear hK K
  try simp only [Act.put, List.setIfInBounds_toArray, List.set_cons_succ, List.set_cons_zero]
  clear hS hb
  have hS := hHeld
  clear hHeld
  refine' wpAnyH_take (i := 1) ?h1x1p ?hsx1p ?hfx1p ?hrx1p ?hQx1p (Or.inl ⟨?hwx1p, ?hyx1p⟩) hS ?restx1p
  case h1x1p => (simp only [List.getElem?_toArray, List.getElem?_cons_succ, List.getElem?_cons_zero]; rfl)
  case hsx1p => kernel_rfl
  case hfx1p => kernel_rfl
  case hrx1p => kernel_rfl
  case hQx1p => exact fun _ _ _ h => h
  case hwx1p => rfl
  case hyx1p =>
    intro W hW
    go_simp
    try with_reducible rfl
  simp only [Act.put, List.setIfInBounds_toArray, List.set_cons_succ, List.set_cons_zero]
  refine' wpAnyH_take (i := 2) ?h1x2p ?hsx2p ?hfx2p ?hrx2p ?hQx2p (Or.inl ⟨?hwx2p, ?hyx2p⟩) hS ?restx2p
  case h1x2p => (simp only [List.getElem?_toArray, List.getElem?_cons_succ, List.getElem?_cons_zero]; rfl)
  case hsx2p => kernel_rfl
  case hfx2p => kernel_rfl
  case hrx2p => kernel_rfl
  case hQx2p => exact fun _ _ _ h => h
  case hwx2p => rfl
  case hyx2p =>
    intro W hW
    go_simp
    try with_reducible rfl
  simp only [Act.put, List.setIfInBounds_toArray, List.set_cons_succ, List.set_cons_zero]
  refine' wpAnyH_take (i := 3) ?h1x3p ?hsx3p ?hfx3p ?hrx3p ?hQx3p (Or.inl ⟨?hwx3p, ?hyx3p⟩) hS ?restx3p
  case h1x3p => (simp only [List.getElem?_toArray, List.getElem?_cons_succ, List.getElem?_cons_zero]; rfl)
  case hsx3p => kernel_rfl
  case hfx3p => kernel_rfl
  case hrx3p => kernel_rfl
  case hQx3p => exact fun _ _ _ h => h
  case hwx3p => rfl
  case hyx3p =>
    intro W hW
    have cs := (RA4.out.below hW).str
    go_simp
    try with_reducible rfl
  simp only [Act.put, List.setIfInBounds_toArray, List.set_cons_succ, List.set_cons_zero]
  refine' wpAnyH_take (i := 4) ?h1x4p ?hsx4p ?hfx4p ?hrx4p ?hQx4p (Or.inl ⟨?hwx4p, ?hyx4p⟩) hS ?restx4p
  case h1x4p => (simp only [List.getElem?_toArray, List.getElem?_cons_succ, List.getElem?_cons_zero]; rfl)
  case hsx4p => kernel_rfl
  case hfx4p => kernel_rfl
  case hrx4p => kernel_rfl
  case hQx4p => exact fun _ _ _ h => h
  case hwx4p => rfl
  case hyx4p =>
    intro W hW
    go_simp
    try with_reducible rfl
  simp only [Act.put, List.setIfInBounds_toArray, List.set_cons_succ, List.set_cons_zero]
  refine' wpAnyH_take (i := 5) ?h1x5p ?hsx5p ?hfx5p ?hrx5p ?hQx5p (Or.inl ⟨?hwx5p, ?hyx5p⟩) hS ?restx5p
  case h1x5p => (simp only [List.getElem?_toArray, List.getElem?_cons_succ, List.getElem?_cons_zero]; rfl)
  case hsx5p => kernel_rfl
  case hfx5p => kernel_rfl
  case hrx5p => kernel_rfl
  case hQx5p => exact fun _ _ _ h => h
  case hwx5p => rfl
  case hyx5p =>
    intro W hW
    have cs := (RW4.out.below hW).str
    go_simp
    try with_reducible rfl
  simp only [Act.put, List.setIfInBounds_toArray, List.set_cons_succ, List.set_cons_zero]
  refine' wpAnyH_take (i := 6) ?h1x6p ?hsx6p ?hfx6p ?hrx6p ?hQx6p (Or.inl ⟨?hwx6p, ?hyx6p⟩) hS ?restx6p
  case h1x6p => (simp only [List.getElem?_toArray, List.getElem?_cons_succ, List.getElem?_cons_zero]; rfl)
  case hsx6p => kernel_rfl
  case hfx6p => kernel_rfl
  case hrx6p => kernel_rfl
  case hQx6p => exact fun _ _ _ h => h
  case hwx6p => rfl
  case hyx6p =>
    intro W hW
    go_simp
    try with_reducible rfl
  simp only [Act.put, List.setIfInBounds_toArray, List.set_cons_succ, List.set_cons_zero]
  refine' wpAnyH_take (i := 7) ?h1x7p ?hsx7p ?hfx7p ?hrx7p ?hQx7p (Or.inl ⟨?hwx7p, ?hyx7p⟩) hS ?restx7p
  case h1x7p => (simp only [List.getElem?_toArray, List.getElem?_cons_succ, List.getElem?_cons_zero]; rfl)
  case hsx7p => kernel_rfl
  case hfx7p => kernel_rfl
  case hrx7p => kernel_rfl
  case hQx7p => exact fun _ _ _ h => h
  case hwx7p => rfl
  case hyx7p =>
    intro W hW
    go_simp
    try with_reducible rfl
  simp only [Act.put, List.setIfInBounds_toArray, List.set_cons_succ, List.set_cons_zero]
  refine' wpAnyH_take (i := 8) ?h1x8p ?hsx8p ?hfx8p ?hrx8p ?hQx8p (Or.inl ⟨?hwx8p, ?hyx8p⟩) hS ?restx8p
  case h1x8p => (simp only [List.getElem?_toArray, List.getElem?_cons_succ, List.getElem?_cons_zero]; rfl)
  case hsx8p => kernel_rfl
  case hfx8p => kernel_rfl
  case hrx8p => kernel_rfl
  case hQx8p => exact fun _ _ _ h => h
  case hwx8p => rfl
  case hyx8p =>
    intro W hW
    go_simp
    try with_reducible rfl
  simp only [Act.put, List.setIfInBounds_toArray, List.set_cons_succ, List.set_cons_zero]
  refine' wpAnyH_take (i := 9) ?h1x9p ?hsx9p ?hfx9p ?hrx9p ?hQx9p (Or.inl ⟨?hwx9p, ?hyx9p⟩) hS ?restx9p
  case h1x9p => (simp only [List.getElem?_toArray, List.getElem?_cons_succ, List.getElem?_cons_zero]; rfl)
  case hsx9p => kernel_rfl
  case hfx9p => kernel_rfl
  case hrx9p => kernel_rfl
  case hQx9p => exact fun _ _ _ h => h
  case hwx9p => rfl
  case hyx9p =>
    intro W hW
    go_simp
    try with_reducible rfl
  simp only [Act.put, List.setIfInBounds_toArray, List.set_cons_succ, List.set_cons_zero]
  refine' wpAnyH_take (i := 10) ?h1x10p ?hsx10p ?hfx10p ?hrx10p ?hQx10p (Or.inl ⟨?hwx10p, ?hyx10p⟩) hS ?restx10p
  case h1x10p => (simp only [List.getElem?_toArray, List.getElem?_cons_succ, List.getElem?_cons_zero]; rfl)
  case hsx10p => kernel_rfl
  case hfx10p => kernel_rfl
  case hrx10p => kernel_rfl
  case hQx10p => exact fun _ _ _ h => h
  case hwx10p => rfl
  case hyx10p =>
    intro W hW
    have cs := (RB4.out.below hW).str
    go_simp
    try with_reducible rfl
  simp only [Act.put, List.setIfInBounds_toArray, List.set_cons_succ, List.set_cons_zero]
  refine' wpAnyH_take (i := 11) ?h1x11p ?hsx11p ?hfx11p ?hrx11p ?hQx11p (Or.inl ⟨?hwx11p, ?hyx11p⟩) hS ?restx11p
  case h1x11p => (simp only [List.getElem?_toArray, List.getElem?_cons_succ, List.getElem?_cons_zero]; rfl)
  case hsx11p => kernel_rfl
  case hfx11p => kernel_rfl
  case hrx11p => kernel_rfl
  case hQx11p => exact fun _ _ _ h => h
  case hwx11p => rfl
  case hyx11p =>
    intro W hW
    go_simp
    try with_reducible rfl
  simp only [Act.put, List.setIfInBounds_toArray, List.set_cons_succ, List.set_cons_zero]
  refine' wpAnyH_take (i := 12) ?h1x12p ?hsx12p ?hfx12p ?hrx12p ?hQx12p (Or.inl ⟨?hwx12p, ?hyx12p⟩) hS ?restx12p
  case h1x12p => (simp only [List.getElem?_toArray, List.getElem?_cons_succ, List.getElem?_cons_zero]; rfl)
  case hsx12p => kernel_rfl
  case hfx12p => kernel_rfl
  case hrx12p => kernel_rfl
  case hQx12p => exact fun _ _ _ h => h
  case hwx12p => rfl
  case hyx12p =>
    intro W hW
    have cs := (RW4.out.below hW).str
    go_simp
    try with_reducible rfl
  simp only [Act.put, List.setIfInBounds_toArray, List.set_cons_succ, List.set_cons_zero]
  refine' wpAnyH_take (i := 13) ?h1x13p ?hsx13p ?hfx13p ?hrx13p ?hQx13p (Or.inl ⟨?hwx13p, ?hyx13p⟩) hS ?restx13p
  case h1x13p => (simp only [List.getElem?_toArray, List.getElem?_cons_succ, List.getElem?_cons_zero]; rfl)
  case hsx13p => kernel_rfl
  case hfx13p => kernel_rfl
  case hrx13p => kernel_rfl
  case hQx13p => exact fun _ _ _ h => h
  case hwx13p => rfl
  case hyx13p =>
    intro W hW
    go_simp
    try with_reducible rfl
  simp only [Act.put, List.setIfInBounds_toArray, List.set_cons_succ, List.set_cons_zero]
  refine' wpAnyH_take (i := 14) ?h1x14p ?hsx14p ?hfx14p ?hrx14p ?hQx14p (Or.inl ⟨?hwx14p, ?hyx14p⟩) hS ?restx14p
  case h1x14p => (simp only [List.getElem?_toArray, List.getElem?_cons_succ, List.getElem?_cons_zero]; rfl)
  case hsx14p => kernel_rfl
  case hfx14p => kernel_rfl
  case hrx14p => kernel_rfl
  case hQx14p => exact fun _ _ _ h => h
  case hwx14p => rfl
  case hyx14p =>
    intro W hW
    go_simp
    try with_reducible rfl
  simp only [Act.put, List.setIfInBounds_toArray, List.set_cons_succ, List.set_cons_zero]
  refine' wpAnyH_take (i := 15) ?h1x15p ?hsx15p ?hfx15p ?hrx15p ?hQx15p (Or.inl ⟨?hwx15p, ?hyx15p⟩) hS ?restx15p
  case h1x15p => (simp only [List.getElem?_toArray, List.getElem?_cons_succ, List.getElem?_cons_zero]; rfl)
  case hsx15p => kernel_rfl
  case hfx15p => kernel_rfl
  case hrx15p => kernel_rfl
  case hQx15p => exact fun _ _ _ h => h
  case hwx15p => rfl
  case hyx15p =>
    intro W hW
    go_simp
    try with_reducible rfl
  simp only [Act.put, List.setIfInBounds_toArray, List.set_cons_succ, List.set_cons_zero]
  refine' wpAnyH_take (i := 16) ?h1x16p ?hsx16p ?hfx16p ?hrx16p ?hQx16p (Or.inl ⟨?hwx16p, ?hyx16p⟩) hS ?restx16p
  case h1x16p => (simp only [List.getElem?_toArray, List.getElem?_cons_succ, List.getElem?_cons_zero]; rfl)
  case hsx16p => kernel_rfl
  case hfx16p => kernel_rfl
  case hrx16p => kernel_rfl
  case hQx16p => exact fun _ _ _ h => h
  case hwx16p => rfl
  case hyx16p =>
    intro W hW
    go_simp
    try with_reducible rfl
  simp only [Act.put, List.setIfInBounds_toArray, List.set_cons_succ, List.set_cons_zero]
  refine' wpAnyH_take (i := 17) ?h1x17p ?hsx17p ?hfx17p ?hrx17p ?hQx17p (Or.inl ⟨?hwx17p, ?hyx17p⟩) hS ?restx17p
  case h1x17p => (simp only [List.getElem?_toArray, List.getElem?_cons_succ, List.getElem?_cons_zero]; rfl)
  case hsx17p => kernel_rfl
  case hfx17p => kernel_rfl
  case hrx17p => kernel_rfl
  case hQx17p => exact fun _ _ _ h => h
  case hwx17p => rfl
  case hyx17p =>
    intro W hW
    go_simp
    try with_reducible rfl
  simp only [Act.put, List.setIfInBounds_toArray, List.set_cons_succ, List.set_cons_zero]
  refine' wpAnyH_take (i := 18) ?h1x18p ?hsx18p ?hfx18p ?hrx18p ?hQx18p (Or.inl ⟨?hwx18p, ?hyx18p⟩) hS ?restx18p
  case h1x18p => (simp only [List.getElem?_toArray, List.getElem?_cons_succ, List.getElem?_cons_zero]; rfl)
  case hsx18p => kernel_rfl
  case hfx18p => kernel_rfl
  case hrx18p => kernel_rfl
  case hQx18p => exact fun _ _ _ h => h
  case hwx18p => rfl
  case hyx18p =>
    intro W hW
    go_simp
    try with_reducible rfl
  simp only [Act.put, List.setIfInBounds_toArray, List.set_cons_succ, List.set_cons_zero]
  refine' wpAnyH_take (i := 20) ?h1x20p ?hsx20p ?hfx20p ?hrx20p ?hQx20p (Or.inl ⟨?hwx20p, ?hyx20p⟩) hS ?restx20p
  case h1x20p => (simp only [List.getElem?_toArray, List.getElem?_cons_succ, List.getElem?_cons_zero]; rfl)
  case hsx20p => kernel_rfl
  case hfx20p => kernel_rfl
  case hrx20p => kernel_rfl
  case hQx20p => exact fun _ _ _ h => h
  case hwx20p => rfl
  case hyx20p =>
    intro W hW
    go_simp
    try with_reducible rfl
  simp only [Act.put, List.setIfInBounds_toArray, List.set_cons_succ, List.set_cons_zero]
  refine' wpAnyH_take (i := 21) ?h1x21p ?hsx21p ?hfx21p ?hrx21p ?hQx21p (Or.inl ⟨?hwx21p, ?hyx21p⟩) hS ?restx21p
  case h1x21p => (simp only [List.getElem?_toArray, List.getElem?_cons_succ, List.getElem?_cons_zero]; rfl)
  case hsx21p => kernel_rfl
  case hfx21p => kernel_rfl
  case hrx21p => kernel_rfl
  case hQx21p => exact fun _ _ _ h => h
  case hwx21p => rfl
  case hyx21p =>
    intro W hW
    have cs := (HM.out.below (B4.out.trans (hW.mono B4.out.size))).str
    go_simp
    try with_reducible rfl
  simp only [Act.put, List.setIfInBounds_toArray, List.set_cons_succ, List.set_cons_zero]
  refine' wpAnyH_take (i := 22) ?h1x22p ?hsx22p ?hfx22p ?hrx22p ?hQx22p (Or.inl ⟨?hwx22p, ?hyx22p⟩) hS ?restx22p
  case h1x22p => (simp only [List.getElem?_toArray, List.getElem?_cons_succ, List.getElem?_cons_zero]; rfl)
  case hsx22p => kernel_rfl
  case hfx22p => kernel_rfl
  case hrx22p => kernel_rfl
  case hQx22p => exact fun _ _ _ h => h
  case hwx22p => rfl
  case hyx22p =>
    intro W hW
    go_simp
    try with_reducible rfl
  simp only [Act.put, List.setIfInBounds_toArray, List.set_cons_succ, List.set_cons_zero]
  refine' wpAnyH_take (i := 23) ?h1x23p ?hsx23p ?hfx23p ?hrx23p ?hQx23p (Or.inl ⟨?hwx23p, ?hyx23p⟩) hS ?restx23p
  case h1x23p => (simp only [List.getElem?_toArray, List.getElem?_cons_succ, List.getElem?_cons_zero]; rfl)
  case hsx23p => kernel_rfl
  case hfx23p => kernel_rfl
  case hrx23p => kernel_rfl
  case hQx23p => exact fun _ _ _ h => h
  case hwx23p => rfl
  case hyx23p =>
    intro W hW
    have cs := (RW4.out.below hW).str
    go_simp
    try with_reducible rfl
  simp only [Act.put, List.setIfInBounds_toArray, List.set_cons_succ, List.set_cons_zero]
  refine' wpAnyH_take (i := 24) ?h1x24p ?hsx24p ?hfx24p ?hrx24p ?hQx24p (Or.inl ⟨?hwx24p, ?hyx24p⟩) hS ?restx24p
  case h1x24p => (simp only [List.getElem?_toArray, List.getElem?_cons_succ, List.getElem?_cons_zero]; rfl)
  case hsx24p => kernel_rfl
  case hfx24p => kernel_rfl
  case hrx24p => kernel_rfl
  case hQx24p => exact fun _ _ _ h => h
  case hwx24p => rfl
  case hyx24p =>
    intro W hW
    go_simp
    try with_reducible rfl
  simp only [Act.put, List.setIfInBounds_toArray, List.set_cons_succ, List.set_cons_zero]
  refine wpAnyH_ready (rs := [19]) (by kernel_rfl) (by simp) ?_
  refine' AllReadyH.cons ?hoc19p (fun K hK => ?stc19p) AllReadyH.nil
  case hoc19p => (simp only [List.getElem?_toArray, List.getElem?_cons_succ, List.getElem?_cons_zero]; rfl)
  go_simp
  refine (RM.out _ (HGL.out.below (B4.out.trans (hS.mono B4.out.size)) H2W.out) (HA.out.below (B4.out.trans (hS.mono B4.out.size))) (HBB.out.below (B4.out.trans (hS.mono B4.out.size))) (HM.out.below (B4.out.trans (hS.mono B4.out.size)))).mono ?_
  rintro e wb ⟨rfl, hb⟩
  go_wp2_with fail
  refine hK.out _ _ (hS.trans (hb.mono hS.size)) (fun hHeld => ?_)
  clear hK K
  try simp only [Act.put, List.setIfInBounds_toArray, List.set_cons_succ, List.set_cons_zero]
  clear hS hb
  have hS := hHeld
  clear hHeld
  refine' wpAnyH_take (i := 25) ?h1x25p ?hsx25p ?hfx25p ?hrx25p ?hQx25p (Or.inl ⟨?hwx25p, ?hyx25p⟩) hS ?restx25p
  case h1x25p => (simp only [List.getElem?_toArray, List.getElem?_cons_succ, List.getElem?_cons_zero]; rfl)
  case hsx25p => kernel_rfl
  case hfx25p => kernel_rfl
  case hrx25p => kernel_rfl
  case hQx25p => exact fun _ _ _ h => h
  case hwx25p => rfl
  case hyx25p =>
    intro W hW
    go_simp
    try with_reducible rfl
  simp only [Act.put, List.setIfInBounds_toArray, List.set_cons_succ, List.set_cons_zero]
  refine' wpAnyH_take (i := 26) ?h1x26p ?hsx26p ?hfx26p ?hrx26p ?hQx26p (Or.inl ⟨?hwx26p, ?hyx26p⟩) hS ?restx26p
  case h1x26p => (simp only [List.getElem?_toArray, List.getElem?_cons_succ, List.getElem?_cons_zero]; rfl)
  case hsx26p => kernel_rfl
  case hfx26p => kernel_rfl
  case hrx26p => kernel_rfl
  case hQx26p => exact fun _ _ _ h => h
  case hwx26p => rfl
  case hyx26p =>
    intro W hW
    go_simp
    try with_reducible rfl
  simp only [Act.put, List.setIfInBounds_toArray, List.set_cons_succ, List.set_cons_zero]
  refine' wpAnyH_take (i := 27) ?h1x27p ?hsx27p ?hfx27p ?hrx27p ?hQx27p (Or.inl ⟨?hwx27p, ?hyx27p⟩) hS ?restx27p
  case h1x27p => (simp only [List.getElem?_toArray, List.getElem?_cons_succ, List.getElem?_cons_zero]; rfl)
  case hsx27p => kernel_rfl
  case hfx27p => kernel_rfl
  case hrx27p => kernel_rfl
  case hQx27p => exact fun _ _ _ h => h
  case hwx27p => rfl
  case hyx27p =>
    intro W hW
    go_simp
    try with_reducible rfl
  simp only [Act.put, List.setIfInBounds_toArray, List.set_cons_succ, List.set_cons_zero]
  refine' wpAnyH_take (i := 28) ?h1x28p ?hsx28p ?hfx28p ?hrx28p ?hQx28p (Or.inl ⟨?hwx28p, ?hyx28p⟩) hS ?restx28p
  case h1x28p => (simp only [List.getElem?_toArray, List.getElem?_cons_succ, List.getElem?_cons_zero]; rfl)
  case hsx28p => kernel_rfl
  case hfx28p => kernel_rfl
  case hrx28p => kernel_rfl
  case hQx28p => exact fun _ _ _ h => h
  case hwx28p => rfl
  case hyx28p =>
    intro W hW
    go_simp
    try with_reducible rfl
  simp only [Act.put, List.setIfInBounds_toArray, List.set_cons_succ, List.set_cons_zero]
  refine' wpAnyH_take (i := 29) ?h1x29p ?hsx29p ?hfx29p ?hrx29p ?hQx29p (Or.inl ⟨?hwx29p, ?hyx29p⟩) hS ?restx29p
  case h1x29p => (simp only [List.getElem?_toArray, List.getElem?_cons_succ, List.getElem?_cons_zero]; rfl)
  case hsx29p => kernel_rfl
  case hfx29p => kernel_rfl
  case hrx29p => kernel_rfl
  case hQx29p => exact fun _ _ _ h => h
  case hwx29p => rfl
  case hyx29p =>
    intro W hW
    go_simp
    try with_reducible rfl
  simp only [Act.put, List.setIfInBounds_toArray, List.set_cons_succ, List.set_cons_zero]
  refine' wpAnyH_take (i := 30) ?h1x30p ?hsx30p ?hfx30p ?hrx30p ?hQx30p (Or.inl ⟨?hwx30p, ?hyx30p⟩) hS ?restx30p
  case h1x30p => (simp only [List.getElem?_toArray, List.getElem?_cons_succ, List.getElem?_cons_zero]; rfl)
  case hsx30p => kernel_rfl
  case hfx30p => kernel_rfl
  case hrx30p => kernel_rfl
  case hQx30p => exact fun _ _ _ h => h
  case hwx30p => rfl
  case hyx30p =>
    intro W hW
    go_simp
    try with_reducible rfl
  simp only [Act.put, List.setIfInBounds_toArray, List.set_cons_succ, List.set_cons_zero]
  refine wpAnyH_ready (rs := [31]) (by kernel_rfl) (by simp) ?_
  refine' AllReadyH.cons ?hoc31p (fun K hK => ?stc31p) AllReadyH.nil
  case hoc31p => (simp only [List.getElem?_toArray, List.getElem?_cons_succ, List.getElem?_cons_zero]; rfl)
  go_simp
  refine (RW.out _ _ (HGL.out.below (B4.out.trans (hS.mono B4.out.size)) H2W.out) (HA.out.below (B4.out.trans (hS.mono B4.out.size))) (HBB.out.below (B4.out.trans (hS.mono B4.out.size))) (RW4.out.below hS)).mono ?_
  rintro e wc ⟨rfl, hb⟩
  go_wp2_with fail
  refine hK.out _ _ (hS.trans (hb.mono hS.size)) (fun hHeld => ?_)
  clear hK K
  try simp only [Act.put, List.setIfInBounds_toArray, List.set_cons_succ, List.set_cons_zero]
  clear hS hb
  have hS := hHeld
  clear hHeld
  refine' wpAnyH_take (i := 32) ?h1x32p ?hsx32p ?hfx32p ?hrx32p ?hQx32p (Or.inl ⟨?hwx32p, ?hyx32p⟩) hS ?restx32p
  case h1x32p => (simp only [List.getElem?_toArray, List.getElem?_cons_succ, List.getElem?_cons_zero]; rfl)
  case hsx32p => kernel_rfl
  case hfx32p => kernel_rfl
  case hrx32p => kernel_rfl
  case hQx32p => exact fun _ _ _ h => h
  case hwx32p => rfl
  case hyx32p =>
    intro W hW
    go_simp
    try with_reducible rfl
  simp only [Act.put, List.setIfInBounds_toArray, List.set_cons_succ, List.set_cons_zero]
  refine' wpAnyH_take (i := 33) ?h1x33p ?hsx33p ?hfx33p ?hrx33p ?hQx33p (Or.inl ⟨?hwx33p, ?hyx33p⟩) hS ?restx33p
  case h1x33p => (simp only [List.getElem?_toArray, List.getElem?_cons_succ, List.getElem?_cons_zero]; rfl)
  case hsx33p => kernel_rfl
  case hfx33p => kernel_rfl
  case hrx33p => kernel_rfl
  case hQx33p => exact fun _ _ _ h => h
  case hwx33p => rfl
  case hyx33p =>
    intro W hW
    go_simp
    try with_reducible rfl
  simp only [Act.put, List.setIfInBounds_toArray, List.set_cons_succ, List.set_cons_zero]
  refine wpAnyH_done (by kernel_rfl) ?_ _
  clear sq
  go_wp2_with fail
  go_ret
  exact ⟨rfl, B4.out.trans (hS.mono B4.out.size)⟩
theorem walkI (va vb vm : Value) (k b m : List Int) (w : World) (hG : Glob w) (ha : Sees w va k) (hb : Sees w vb b) (hm : Sees w vm m) :
    Calls Tryd.prog 7 #[va, vb, vm] w fun e w' => e = .returned (.bool true) ∧ Below w.heap.size w w' := by
  by_cases h : 200 < k.length ∨ 300 < b.length ∨ 100 < m.length
  · exact walk_great va vb vm k b m w hG ha hb hm h
  · exact walk va vb vm k b m w hG ha hb hm (by omega) (by omega) (by omega)

set_option maxRecDepth 100000 in
theorem lifted (os : Os) (started : os.Started) (H : Type) (enc : TypeId × Value → H) :
    ReturnsInHanded {} Tryd.checked os 7 .any (fun w args => (Rows.hmacMarksSpec.pre enc Tryd.prog Tryd.f7 [] false w args ∧ laidMetH Tryd.prog laid2 w) ∧ sizedMet enc Tryd.prog Tryd.f7 (OpenSpec.ofChange Rows.hmacMarksSpec) false w args)
      (Rows.hmacMarksSpec.post enc Tryd.prog Tryd.f7 false true false false) := by
  refine returnsInHanded_of_change_and (C := Tryd.checked) (X := fun w _ => laidMetH Tryd.prog laid2 w) (fun _ _ _ hh h => h.of_heap hh) own started (by kernel_rfl) Tryd.func7
    (ChangeSpec.witness_shaped (enc := enc) (C := Tryd.checked) (os := os) (X := fun w _ => laidMetH Tryd.prog laid2 w) false (World.doorLaid Tryd.prog 400 os) #[.slice none 0 0, .slice none 0 0, .slice none 0 0] 8 rfl (World.shaped_of_RefB (by kernel_rfl) (by kernel_rfl)) (by kernel_rfl) (by kernel_rfl) (by kernel_rfl) (door_met os _)) ?_
  intro W base args ds gs before hval0 hW _ _ hL _
  have hval : ∀ (j : Nat) t v, Tryd.f7.params[j]? = some t → args[j]? = some v → Value.okWide Tryd.prog W .any base t v := hval0
  have hW' := hW
  obtain ⟨p, q, hA0, hV, rfl, hfz, hnd⟩ := hW
  have hA : DataW.TrodAll enc Tryd.prog W 0 (fun _ => true) true Tryd.f7.params.toList args.toList ds p := hA0
  rw [Tryd.params7] at hA hval
  obtain ⟨v0, vs0, d0, ds0, p0, q0, hargs, rfl, rfl, h0, r0⟩ := trodAll_cons hA
  obtain ⟨v1, vs1, d1, ds1, p1, q1, rfl, rfl, rfl, h1, r1⟩ := trodAll_cons r0
  obtain ⟨v2, vs2, d2, ds2, p2, q2, rfl, rfl, rfl, h2, r2⟩ := trodAll_cons r1
  obtain ⟨rfl, rfl, rfl⟩ := trodAll_nil r2
  obtain rfl : args = #[v0, v1, v2] := by cases args; simp_all
  obtain ⟨rfl, rfl⟩ := trodVars_none hV
  obtain ⟨x0, s0⟩ := open_sees (hval 0 22 v0 rfl rfl) h0
  obtain ⟨x1, s1⟩ := open_sees (hval 1 22 v1 rfl rfl) h1
  obtain ⟨x2, s2⟩ := open_sees (hval 2 22 v2 rfl rfl) h2
  refine (walkI v0 v1 v2 x0 x1 x2 W (of_laid hL) s0 s1 s2).mono fun e W' ⟨he, hb⟩ => ?_
  subst he
  exact ⟨_, rfl, law_post hW' rfl rfl rfl (by kernel_rfl) hb⟩
/-- The row's statement. -/
theorem row_holds : Rows.HmacMarksSaid :=
  OpenClaim.holds_of_wide 7 Tryd.f7 rfl rfl rfl rfl rfl rfl rfl ⟨rfl, rfl, rfl, rfl, rfl⟩ rfl rfl rfl rfl rfl (by kernel_rfl) Tryd.func7 (by kernel_rfl)
    (of_decide_eq_true (by kernel_rfl)) (by unfold Func.isWrapper; first | (rw [if_pos (by decide +kernel)]; kernel_rfl) | (rw [if_neg (by decide +kernel)]; exact ⟨rfl, rfl⟩))
    (fun os started H enc _ => lifted os started H enc)
/-- The tied card. -/
theorem proved : Rows.HmacMarksCardSaid :=
  Claim7.holds_tied_plain_at .later [] [.data, .data] true (true, "c1a692658ed27d6b705437531a4023b4f004fc9067d80523147904b9ccf5c916") false
    row_holds (fun _ h => by cases h) (by kernel_rfl) (fun _ h => by cases h) hmacMarks_row_tie rfl ⟨rfl, rfl⟩ (by kernel_rfl) rfl
    (fun f fn hf hfn => by
      obtain rfl : f = 7 := Option.some.inj ((show Tryd.prog.funcNamed "casemate/casematelaw03.HmacMarks" = some 7 by kernel_rfl).symm.trans hf) |>.symm
      obtain rfl : fn = Tryd.f7 := (Option.some.inj (Tryd.func7.symm.trans hfn)).symm
      exact ⟨by kernel_rfl, fun j t ht => by
        rw [Tryd.params7] at ht
        have hm : t ∈ [22, 22, 22] := by simpa using Array.mem_of_getElem? ht
        have hall : ([22, 22, 22].all fun u => !Tryd.prog.wantsStandIn u) = true := by kernel_rfl
        exact (show Tryd.prog.wantsStandIn t = false by simpa using List.all_eq_true.1 hall t hm)⟩)
    (by kernel_rfl)
#print axioms proved
end Go.Proofs.YtmkaagiabafooaaDoor.hmacMarks
