/-
  For all keys, salts, slots and numbers the law KeysSlots of package casematelaw21 returns true, and they read afterwards as before: slots are made and opened as the document says, and a volume's keys are told. Condition: none.
-/
import Derived.Test.YtpkeofioobmmoaaGreatDoorZB
import Derived.Test.YtpkeofioobmmoaaGreatDoorKQ
import Derived.Test.YtpkeofioobmmoaaGreatDoorAeXtsF
import Derived.Test.YtpkeofioobmmoaaGreatDoorShLaid
namespace Go.Proofs.YtpkeofioobmmoaaGreatDoor.keysSlots
open Go.ChangeShapes Go.WideShapes Go.ChangeAt Go.RowKit Go.Proofs.YtpkeofioobmmoaaGreatDoor.ae
set_option maxRecDepth 100000 in
set_option maxHeartbeats 16000000 in
theorem walk (outer master salt A B C : List Nat) (ho : ae.Bts 32 outer) (hm : ae.Bts 32 master) (hs : ae.Bts 32 salt) (hA : ae.Bts 32 A) (hB : ae.Bts 32 B) (hC : ae.Bts 40 C) (n : Nat) (hn : n ≤ 18446744073709551615) (w : World) (hG : sh.Glob w) :
    Calls Tryz.prog 3 #[.agg (ncells outer), .agg (ncells master), .agg (ncells salt), .agg (ncells (A ++ B ++ C)), .int .u64 n] w fun e w' => e = .returned (.bool true) ∧ Below w.heap.size w w' := by
  have z38 := ae.zero23
  obtain ⟨Z, hZ⟩ : ∃ Z, Z = ncells (zeros 32) := ⟨_, rfl⟩
  rw [← hZ] at z38
  have ZL : Hid (∀ l : List Nat, l.length = 32 → Z.size = (ncells l).size) := fun l hl => by rw [hZ]; exact z23 hl
  have bc := chk_bts (outer := outer) hs.2
  have bw := wrk_bts (outer := outer) hs.2
  have bp := wrp_bts bw hm
  have bV : ae.Bts 32 (opV outer A B C) := by
    unfold opV
    split
    · split
      · exact unw_bts (wrk_bts hA.2) hC
      · exact ⟨rfl, zeros_byt _⟩
    · exact ⟨rfl, zeros_byt _⟩
  have b1k := vone_bts n hm
  have b2k := vtwo_bts n hm
  have LO := Lib.hid ho.1
  have LM := Lib.hid hm.1
  have LS := Lib.hid hs.1
  have LV := Lib.hid bV.1
  have L1 := Lib.hid b1k.1
  have L2 := Lib.hid b2k.1
  have lsl : (A ++ B ++ C).length = 104 := by simp [hA.1, hB.1, hC.1]
  have LSL := Lib.hid lsl
  have OK1 : Hid (∀ W : World, sh.Glob W → Calls Tryz.prog 4 #[.agg (ncells outer), .agg (ncells (A ++ B ++ C))] W fun e w' => e = .returned (.tuple #[.agg (ncells (opV outer A B C)), .int .i64 (opE outer A B C)]) ∧ Below W.heap.size W w') := fun W hg => openK outer A B C ho hA hB hC W hg
  have ASK : Hid (∀ W : World, Calls Tryz.prog 6 #[.agg (ncells (A ++ B ++ C))] W (TextP W 104 (A ++ B ++ C))) := fun W => asK A B C hA hB hC W
  have RO : Hid (∀ (W : World) (g : Nat) (q : Option Addr) (c : Nat), W.heap[g]? = some (.cells (ncells outer) 23 (0, 0)) → ae.Sees W (.slice q 104 c) (A ++ B ++ C) → Calls Tryz.prog 5 #[.slice (some ⟨g, 0, none⟩) 32 32, .slice q 104 c] W (OpenP W (opE outer A B C) (opV outer A B C))) := fun W g q c h1 h2 => by
    obtain ⟨kb, ko, rfl, h3, h4, h5, h6⟩ := h2.cells (fun e => by rw [e] at lsl; simp at lsl)
    exact refOpen outer A B C ho hA hB hC _ _ kb ko c W (sees32 h1 ho) h2 h4 h5
  have VK : Hid (∀ W : World, sh.Glob W → Calls Tryz.prog 7 #[.agg (ncells master), .int .u64 n] W fun e w' => e = .returned (.tuple #[.agg (ncells (vone master n)), .agg (ncells (vtwo master n))]) ∧ Below W.heap.size W w') := fun W hg => volume master hm n hn W hg
  have MK : Hid (∀ W : World, sh.Glob W → Calls Tryz.prog 8 #[.agg (ncells outer), .agg (ncells master), .agg (ncells salt)] W fun e w' => e = .returned (.agg (ncells (slotN outer master salt))) ∧ Below W.heap.size W w') := fun W hg => makeK outer master salt ho hm hs W hg
  have ASM : Hid (∀ W : World, Calls Tryz.prog 6 #[.agg (ncells (slotN outer master salt))] W (TextP W 104 (slotN outer master salt))) := fun W => asK _ _ _ hs bc bp W
  have RM : Hid (∀ (W : World) (g0 g1 g2 : Nat), W.heap[g0]? = some (.cells (ncells outer) 23 (0, 0)) → W.heap[g1]? = some (.cells (ncells master) 23 (0, 0)) → W.heap[g2]? = some (.cells (ncells salt) 22 (0, 0)) → Calls Tryz.prog 9 #[.slice (some ⟨g0, 0, none⟩) 32 32, .slice (some ⟨g1, 0, none⟩) 32 32, .slice (some ⟨g2, 0, none⟩) 32 32] W (TextP W 104 (slotN outer master salt))) := fun W g0 g1 g2 h1 h2 h3 => refMake outer master salt ho hm hs _ _ _ _ _ _ W (sees32 h1 ho) (sees32 h2 hm) (sees32 h3 hs)
  have AL : Hid (∀ W : World, sh.Glob W → Calls Tryz.prog 10 #[] W fun e w' => e = .returned (.bool true) ∧ Below W.heap.size W w') := fun W hg => alive21 W hg
  have D1 : Hid (∀ (W : World) (g : Nat), W.heap[g]? = some (.cells (ncells master) 23 (0, 0)) → Calls Tryz.prog 11 #[.slice (some ⟨g, 0, none⟩) 32 32, .string ⟨#[111, 110, 101]⟩, .int .u64 n] W (TextP W 32 (vone master n))) := fun W g h => refDer _ master nOne n hn W (sees32 h hm) (by rw [hm.1]; decide) nOne_byt (by decide) _ (by kernel_rfl)
  have D2 : Hid (∀ (W : World) (g : Nat), W.heap[g]? = some (.cells (ncells master) 23 (0, 0)) → Calls Tryz.prog 11 #[.slice (some ⟨g, 0, none⟩) 32 32, .string ⟨#[116, 119, 111]⟩, .int .u64 n] W (TextP W 32 (vtwo master n))) := fun W g h => refDer _ master nTwo n hn W (sees32 h hm) (by rw [hm.1]; decide) nTwo_byt (by decide) _ (by kernel_rfl)
  have SV : Hid (∀ (W : World) (g : Nat), W.heap[g]? = some (.cells (ncells (opV outer A B C)) 23 (0, 0)) → ae.Sees W (.slice (some ⟨g, 0, none⟩) 32 32) (opV outer A B C)) := fun W g h => sees32 h bV
  have S1 : Hid (∀ (W : World) (g : Nat), W.heap[g]? = some (.cells (ncells (vone master n)) 23 (0, 0)) → ae.Sees W (.slice (some ⟨g, 0, none⟩) 32 32) (vone master n)) := fun W g h => sees32 h b1k
  have S2 : Hid (∀ (W : World) (g : Nat), W.heap[g]? = some (.cells (ncells (vtwo master n)) 23 (0, 0)) → ae.Sees W (.slice (some ⟨g, 0, none⟩) 32 32) (vtwo master n)) := fun W g h => sees32 h b2k
  have h2w : 2 ≤ w.heap.size := by have := hG.lt; omega
  obtain ⟨W0, hW0⟩ : ∃ W0, W0 = (((w.alloc (.cells (ncells outer) 23)).alloc (.cells (ncells master) 23)).alloc (.cells (ncells salt) 22)).alloc (.cells (ncells (A ++ B ++ C)) 26) := ⟨_, rfl⟩
  have b1 : Below w.heap.size w (w.alloc (.cells (ncells outer) 23)) := (Below.refl _ _).alloc (Nat.le_refl _) _
  have b2 := b1.alloc (by simp) (.cells (ncells master) 23)
  have b3 := b2.alloc (by simp <;> omega) (.cells (ncells salt) 22)
  have b4 := b3.alloc (by simp <;> omega) (.cells (ncells (A ++ B ++ C)) 26)
  have HB : Hid (Below w.heap.size w W0) := by rw [hW0]; exact b4
  have G0 : Hid (W0.heap[w.heap.size]? = some (.cells (ncells outer) 23 (0, 0))) := by
    show _ = _
    rw [hW0, Below.heap_alloc _ _ _ (by simp <;> omega), Below.heap_alloc _ _ _ (by simp <;> omega), Below.heap_alloc _ _ _ (by simp)]; exact heap_alloc_new w _
  have G1 : Hid (W0.heap[w.heap.size + 1]? = some (.cells (ncells master) 23 (0, 0))) := by
    show _ = _
    rw [hW0, Below.heap_alloc _ _ _ (by simp <;> omega), Below.heap_alloc _ _ _ (by simp <;> omega)]; exact heap_alloc2_new w _ _
  have G2 : Hid (W0.heap[w.heap.size + 1 + 1]? = some (.cells (ncells salt) 22 (0, 0))) := by
    show _ = _
    rw [hW0, Below.heap_alloc _ _ _ (by simp <;> omega)]
    have := heap_alloc_new ((w.alloc (.cells (ncells outer) 23)).alloc (.cells (ncells master) 23)) (.cells (ncells salt) 22)
    simpa using this
  have G3 : Hid (W0.heap[w.heap.size + 1 + 1 + 1]? = some (.cells (ncells (A ++ B ++ C)) 26 (0, 0))) := by
    show _ = _
    have := heap_alloc_new (((w.alloc (.cells (ncells outer) 23)).alloc (.cells (ncells master) 23)).alloc (.cells (ncells salt) 22)) (.cells (ncells (A ++ B ++ C)) 26)
    rw [hW0]
    simpa using this
  have HG := Lib.hid (hG.below b4 h2w)
  rw [← hW0] at HG
  have HW0 := Lib.hid hW0
  have I26 := Lib.hid (i41 lsl)
  clear hW0 b1 b2 b3 b4 ho hs hm hA hB hC hn hG hZ bc bw bp bV b1k b2k lsl h2w
  generalize opV outer A B C = OV at *
  generalize opE outer A B C = OE at *
  generalize vone master n = V1 at *
  generalize vtwo master n = V2 at *
  generalize slotN outer master salt = MS at *
  generalize A ++ B ++ C = SL at *
  have EM : Hid (((strN MS).toList != (strN MS).toList) = false) := by show _ = _; simp
  have EV : Hid (((strN OV).toList == (strN OV).toList) = true) := by show _ = _; simp
  have E1 : Hid (((strN V1).toList == (strN V1).toList) = true) := by show _ = _; simp
  have E2 : Hid (((strN V2).toList == (strN V2).toList) = true) := by show _ = _; simp
  have EE : Hid (((OE : Int) == (OE : Int)) = true) := by show _ = _; simp
  have a38 := arr38
  have a37 := arr37
  go_enter Tryz.func3, Tryz.ntmps3
  go_wp2_with (first
    | (refine wpList_load_row rfl 23 (.tmp 5) rfl w.heap.size rfl 23 (ncells outer) (0, 0) _ (by rw [← HW0.out]; exact G0.out) Tryz.underlying23 rfl (i23 LO.out) ?_)
    | (refine wpList_load_row rfl 26 (.tmp 8) rfl (w.heap.size + 1 + 1 + 1) rfl 26 (ncells SL) (0, 0) _ (by rw [← HW0.out]; exact G3.out) Tryz.underlying26 rfl I26.out ?_))
  rw [← HW0.out]
  refine (OK1.out _ HG.out).mono ?_
  rintro e w1 ⟨rfl, hb⟩
  have B1 := Lib.hid (HB.out.trans (hb.mono HB.out.size))
  have G0 := Lib.hid ((hb.block _ (blk_lt G0.out)).trans G0.out)
  have G1 := Lib.hid ((hb.block _ (blk_lt G1.out)).trans G1.out)
  have G2 := Lib.hid ((hb.block _ (blk_lt G2.out)).trans G2.out)
  have G3 := Lib.hid ((hb.block _ (blk_lt G3.out)).trans G3.out)
  have GG := Lib.hid (HG.out.below hb HG.out.lt)
  have A1 : Hid ((w1.alloc (.cells Z 23)).heap[w1.heap.size]? = some (.cells Z 23 (0, 0))) := heap_alloc_new w1 _
  clear hb OK1 HG HB
  go_wp2_with (refine wpList_store_row rfl 23 (.tmp 11) (.tmp 21) rfl w1.heap.size (ncells OV) rfl rfl 23 Z A1.out (i23 LV.out) (ZL.out _ LV.out) (none_ _) ?_)
  have bs : Below w1.heap.size w1 ((w1.alloc (.cells Z 23)).setRow w1.heap.size (ncells OV)) := ((Below.refl _ _).alloc (Nat.le_refl _) _).trans (below_row _ _ (Nat.le_refl _))
  have gv := setRow_heap _ w1.heap.size _ (ncells OV) _ _ A1.out
  have g0 := (bs.block _ (blk_lt G0.out)).trans G0.out
  have g1 := (bs.block _ (blk_lt G1.out)).trans G1.out
  have g2 := (bs.block _ (blk_lt G2.out)).trans G2.out
  have g3 := (bs.block _ (blk_lt G3.out)).trans G3.out
  have bb := B1.out.trans (bs.mono B1.out.size)
  have gg := GG.out.below bs GG.out.lt
  clear bs A1 G0 G1 G2 G3 B1 GG
  generalize (w1.alloc (.cells Z 23)).setRow w1.heap.size (ncells OV) = w2 at *
  generalize w1.heap.size = kv at *
  have GV := Lib.hid gv
  have G0 := Lib.hid g0
  have G1 := Lib.hid g1
  have G2 := Lib.hid g2
  have G3 := Lib.hid g3
  have B2 := Lib.hid bb
  have GG := Lib.hid gg
  clear gv g0 g1 g2 g3 bb gg HW0
  refine wp_region_held_drew (S := fun W => Below w2.heap.size w2 W) (by kernel_rfl) ((Below.refl _ _).drew) (fun hS => ?_)
  have hb0 : Below w2.heap.size w2 w2.drew := (Below.refl _ _).drew
  clear hb0 
  generalize w2.drew = Wds at hS  ⊢
  refine' wpAnyH_take (i := 0) ?h1x0d ?hsx0d ?hfx0d ?hrx0d ?hQx0d (Or.inl ⟨?hwx0d, ?hyx0d⟩) hS ?restx0d
  case h1x0d => (simp only [List.getElem?_toArray, List.getElem?_cons_zero]; rfl)
  case hsx0d | hfx0d | hrx0d => kernel_rfl
  case hQx0d => exact fun _ _ _ h => h
  case hwx0d => rfl
  case hyx0d =>
    intro W hW
    go_simp
    try with_reducible rfl
  simp only [Act.put, List.setIfInBounds_toArray, List.set_cons_succ, List.set_cons_zero]
  refine' wpAnyH_take (i := 1) ?h1x1d ?hsx1d ?hfx1d ?hrx1d ?hQx1d (yieldsIf_load_at ?hwx1d 26 (.tmp 8) ?hopx1d (w.heap.size + 1 + 1 + 1) 0 rfl (ncells SL) _ (fun W hW => range_row ((hW.block _ (blk_lt G3.out)).trans G3.out)) Tryz.underlying26 rfl ?hix1d) hS ?restx1d
  case h1x1d => (simp only [List.getElem?_toArray, List.getElem?_cons_succ, List.getElem?_cons_zero]; rfl)
  case hopx1d => rfl
  case hsx1d | hfx1d | hrx1d => kernel_rfl
  case hQx1d => exact fun _ _ _ h => h
  case hwx1d => rfl
  case hix1d => exact I26.out
  simp only [Act.put, List.setIfInBounds_toArray, List.set_cons_succ, List.set_cons_zero]
  refine wpAnyH_ready (rs := [2]) (by kernel_rfl) (by simp) ?_
  refine' (AllReadyH.cons ?hoc2d (fun K hK => ?stc2d) AllReadyH.nil)
  case hoc2d => (simp only [List.getElem?_toArray, List.getElem?_cons_succ, List.getElem?_cons_zero]; rfl)
  go_simp
  refine (ASK.out Wds).mono ?_
  rintro e Wdx2 ⟨q1, c1, rfl, hs, hb⟩
  have SA := Lib.hid hs
  clear hs
  go_wp2_with fail
  refine hK.out _ _ (hS.trans (hb.mono hS.size)) (fun hHeld => ?_)
  clear hK K
  try simp only [Act.put, List.setIfInBounds_toArray, List.set_cons_succ, List.set_cons_zero]
  clear hS
  have hS := hHeld
  clear hHeld
  clear hb
  refine wpAnyH_ready (rs := [3]) (by kernel_rfl) (by simp) ?_
  refine' (AllReadyH.cons ?hoc3dx2 (fun K hK => ?stc3dx2) AllReadyH.nil)
  case hoc3dx2 => (simp only [List.getElem?_toArray, List.getElem?_cons_succ, List.getElem?_cons_zero]; rfl)
  go_simp
  refine (RO.out Wdx2 _ _ _ ((hS.block _ (blk_lt G0.out)).trans G0.out) SA.out).mono ?_
  rintro e Wdx2x3 ⟨q2, c2, rfl, hs, hb⟩
  have SA := Lib.hid (SA.out.below hb)
  have SQ := Lib.hid hs
  clear hs
  go_wp2_with fail
  refine hK.out _ _ (hS.trans (hb.mono hS.size)) (fun hHeld => ?_)
  clear hK K
  try simp only [Act.put, List.setIfInBounds_toArray, List.set_cons_succ, List.set_cons_zero]
  clear hS
  have hS := hHeld
  clear hHeld
  clear hb
  refine' wpAnyH_take (i := 4) ?h1x4dx2x3 ?hsx4dx2x3 ?hfx4dx2x3 ?hrx4dx2x3 ?hQx4dx2x3 (Or.inl ⟨?hwx4dx2x3, ?hyx4dx2x3⟩) hS ?restx4dx2x3
  case h1x4dx2x3 => (simp only [List.getElem?_toArray, List.getElem?_cons_succ, List.getElem?_cons_zero]; rfl)
  case hsx4dx2x3 | hfx4dx2x3 | hrx4dx2x3 => kernel_rfl
  case hQx4dx2x3 => exact fun _ _ _ h => h
  case hwx4dx2x3 => rfl
  case hyx4dx2x3 =>
    intro W hW
    go_simp
    try with_reducible rfl
  simp only [Act.put, List.setIfInBounds_toArray, List.set_cons_succ, List.set_cons_zero]
  refine' wpAnyH_take (i := 5) ?h1x5dx2x3 ?hsx5dx2x3 ?hfx5dx2x3 ?hrx5dx2x3 ?hQx5dx2x3 (Or.inl ⟨?hwx5dx2x3, ?hyx5dx2x3⟩) hS ?restx5dx2x3
  case h1x5dx2x3 => (simp only [List.getElem?_toArray, List.getElem?_cons_succ, List.getElem?_cons_zero]; rfl)
  case hsx5dx2x3 | hfx5dx2x3 | hrx5dx2x3 => kernel_rfl
  case hQx5dx2x3 => exact fun _ _ _ h => h
  case hwx5dx2x3 => rfl
  case hyx5dx2x3 =>
    intro W hW
    go_simp
    try with_reducible rfl
  simp only [Act.put, List.setIfInBounds_toArray, List.set_cons_succ, List.set_cons_zero]
  refine' wpAnyH_take (i := 6) ?h1x6dx2x3 ?hsx6dx2x3 ?hfx6dx2x3 ?hrx6dx2x3 ?hQx6dx2x3 (Or.inl ⟨?hwx6dx2x3, ?hyx6dx2x3⟩) hS ?restx6dx2x3
  case h1x6dx2x3 => (simp only [List.getElem?_toArray, List.getElem?_cons_succ, List.getElem?_cons_zero]; rfl)
  case hsx6dx2x3 | hfx6dx2x3 | hrx6dx2x3 => kernel_rfl
  case hQx6dx2x3 => exact fun _ _ _ h => h
  case hwx6dx2x3 => rfl
  case hyx6dx2x3 =>
    intro W hW
    go_simp
    try with_reducible rfl
  simp only [Act.put, List.setIfInBounds_toArray, List.set_cons_succ, List.set_cons_zero]
  refine' wpAnyH_take (i := 7) ?h1x7dx2x3 ?hsx7dx2x3 ?hfx7dx2x3 ?hrx7dx2x3 ?hQx7dx2x3 (Or.inl ⟨?hwx7dx2x3, ?hyx7dx2x3⟩) hS ?restx7dx2x3
  case h1x7dx2x3 => (simp only [List.getElem?_toArray, List.getElem?_cons_succ, List.getElem?_cons_zero]; rfl)
  case hsx7dx2x3 | hfx7dx2x3 | hrx7dx2x3 => kernel_rfl
  case hQx7dx2x3 => exact fun _ _ _ h => h
  case hwx7dx2x3 => rfl
  case hyx7dx2x3 =>
    intro W hW
    go_simp
    try with_reducible rfl
  simp only [Act.put, List.setIfInBounds_toArray, List.set_cons_succ, List.set_cons_zero]
  refine' wpAnyH_take (i := 8) ?h1x8dx2x3 ?hsx8dx2x3 ?hfx8dx2x3 ?hrx8dx2x3 ?hQx8dx2x3 (Or.inl ⟨?hwx8dx2x3, ?hyx8dx2x3⟩) hS ?restx8dx2x3
  case h1x8dx2x3 => (simp only [List.getElem?_toArray, List.getElem?_cons_succ, List.getElem?_cons_zero]; rfl)
  case hsx8dx2x3 | hfx8dx2x3 | hrx8dx2x3 => kernel_rfl
  case hQx8dx2x3 => exact fun _ _ _ h => h
  case hwx8dx2x3 => rfl
  case hyx8dx2x3 =>
    intro W hW
    go_simp
    try with_reducible rfl
  simp only [Act.put, List.setIfInBounds_toArray, List.set_cons_succ, List.set_cons_zero]
  refine wpAnyH_done (by kernel_rfl) ?_ _
  have B3 := Lib.hid (B2.out.trans (hS.mono B2.out.size))
  have G0 := Lib.hid ((hS.block _ (blk_lt G0.out)).trans G0.out)
  have G1 := Lib.hid ((hS.block _ (blk_lt G1.out)).trans G1.out)
  have G2 := Lib.hid ((hS.block _ (blk_lt G2.out)).trans G2.out)
  have GV := Lib.hid ((hS.block _ (blk_lt GV.out)).trans GV.out)
  have GG := Lib.hid (GG.out.below hS GG.out.lt)
  clear hS G3 ASK RO B2
  go_wp2_with (refine wpList_load_row rfl 23 (.tmp 6) rfl (w.heap.size + 1) rfl 23 (ncells master) (0, 0) _ G1.out Tryz.underlying23 rfl (i23 LM.out) ?_)
  refine (VK.out _ GG.out).mono ?_
  rintro e w4 ⟨rfl, hb⟩
  have G0 := Lib.hid ((hb.block _ (blk_lt G0.out)).trans G0.out)
  have G1 := Lib.hid ((hb.block _ (blk_lt G1.out)).trans G1.out)
  have G2 := Lib.hid ((hb.block _ (blk_lt G2.out)).trans G2.out)
  have GV := Lib.hid ((hb.block _ (blk_lt GV.out)).trans GV.out)
  have SQ := Lib.hid (SQ.out.below hb)
  have GG := Lib.hid (GG.out.below hb GG.out.lt)
  have B4 := Lib.hid (B3.out.trans (hb.mono B3.out.size))
  clear hb B3
  have al : Below w4.heap.size w4 ((w4.alloc (.cells Z 23)).alloc (.cells Z 23)) := ((Below.refl _ _).alloc (Nat.le_refl _) _).alloc (by simp) _
  have A1 : Hid (((w4.alloc (.cells Z 23)).alloc (.cells Z 23)).heap[w4.heap.size]? = some (.cells Z 23 (0, 0))) := by show _ = _; rw [Below.heap_alloc _ _ _ (by simp)]; exact heap_alloc_new w4 _
  have A2 : Hid ((((w4.alloc (.cells Z 23)).alloc (.cells Z 23)).setRow w4.heap.size (ncells V1)).heap[w4.heap.size + 1]? = some (.cells Z 23 (0, 0))) := by show _ = _; rw [setRow_other _ _ _ _ (by omega)]; exact heap_alloc2_new w4 _ _
  have bs : Below w4.heap.size w4 ((((w4.alloc (.cells Z 23)).alloc (.cells Z 23)).setRow w4.heap.size (ncells V1)).setRow (w4.heap.size + 1) (ncells V2)) := (al.trans (below_row _ _ (Nat.le_refl _))).trans (below_row _ _ (by omega))
  have f1 : ((((w4.alloc (.cells Z 23)).alloc (.cells Z 23)).setRow w4.heap.size (ncells V1)).setRow (w4.heap.size + 1) (ncells V2)).heap[w4.heap.size]? = some (.cells (ncells V1) 23 (0, 0)) := by
    rw [setRow_other _ _ _ _ (by omega)]; exact setRow_heap _ _ _ _ _ _ A1.out
  have f2 : ((((w4.alloc (.cells Z 23)).alloc (.cells Z 23)).setRow w4.heap.size (ncells V1)).setRow (w4.heap.size + 1) (ncells V2)).heap[w4.heap.size + 1]? = some (.cells (ncells V2) 23 (0, 0)) := setRow_heap _ _ _ _ _ _ A2.out
  have BS := Lib.hid bs
  have F1 := Lib.hid f1
  have F2 := Lib.hid f2
  clear al bs f1 f2
  go_wp2_with (first
    | (refine wpList_store_row rfl 23 (.tmp 15) (.tmp 34) rfl w4.heap.size (ncells V1) rfl rfl 23 Z A1.out (i23 L1.out) (ZL.out _ L1.out) (none_ _) ?_)
    | (refine wpList_store_row rfl 23 (.tmp 16) (.tmp 35) rfl (w4.heap.size + 1) (ncells V2) rfl rfl 23 Z A2.out (i23 L2.out) (ZL.out _ L2.out) (none_ _) ?_))
  have bs := BS.out
  have f1 := F1.out
  have f2 := F2.out
  have g0 := (bs.block _ (blk_lt G0.out)).trans G0.out
  have g1 := (bs.block _ (blk_lt G1.out)).trans G1.out
  have g2 := (bs.block _ (blk_lt G2.out)).trans G2.out
  have gv := (bs.block _ (blk_lt GV.out)).trans GV.out
  have sq := SQ.out.below bs
  have gg := GG.out.below bs GG.out.lt
  have bb := B4.out.trans (bs.mono B4.out.size)
  clear bs BS F1 F2 A1 A2 G0 G1 G2 GV SQ GG B4
  generalize (((w4.alloc (.cells Z 23)).alloc (.cells Z 23)).setRow w4.heap.size (ncells V1)).setRow (w4.heap.size + 1) (ncells V2) = w5 at *
  generalize w4.heap.size = k1 at *
  have F1 := Lib.hid f1
  have F2 := Lib.hid f2
  have G0 := Lib.hid g0
  have G1 := Lib.hid g1
  have G2 := Lib.hid g2
  have GV := Lib.hid gv
  have SQ := Lib.hid sq
  have GG := Lib.hid gg
  have B5 := Lib.hid bb
  clear f1 f2 g0 g1 g2 gv sq gg bb VK
  have e1 := EM.out
  refine wp_region_held_drew (S := fun W => Below w5.heap.size w5 W) (by kernel_rfl) ((Below.refl _ _).drew) (fun hS => ?_)
  have hb0 : Below w5.heap.size w5 w5.drew := (Below.refl _ _).drew
  clear hb0 
  generalize w5.drew = Wfs at hS  ⊢
  refine' wpAnyH_take (i := 0) ?h1x0f ?hsx0f ?hfx0f ?hrx0f ?hQx0f (yieldsIf_load_at ?hwx0f 23 (.tmp 5) ?hopx0f w.heap.size 0 rfl (ncells outer) _ (fun W hW => range_row ((hW.block _ (blk_lt G0.out)).trans G0.out)) Tryz.underlying23 rfl ?hix0f) hS ?restx0f
  case h1x0f => (simp only [List.getElem?_toArray, List.getElem?_cons_zero]; rfl)
  case hopx0f => rfl
  case hsx0f | hfx0f | hrx0f => kernel_rfl
  case hQx0f => exact fun _ _ _ h => h
  case hwx0f => rfl
  case hix0f => exact (i23 LO.out)
  simp only [Act.put, List.setIfInBounds_toArray, List.set_cons_succ, List.set_cons_zero]
  refine' wpAnyH_take (i := 1) ?h1x1f ?hsx1f ?hfx1f ?hrx1f ?hQx1f (yieldsIf_load_at ?hwx1f 23 (.tmp 6) ?hopx1f (w.heap.size + 1) 0 rfl (ncells master) _ (fun W hW => range_row ((hW.block _ (blk_lt G1.out)).trans G1.out)) Tryz.underlying23 rfl ?hix1f) hS ?restx1f
  case h1x1f => (simp only [List.getElem?_toArray, List.getElem?_cons_succ, List.getElem?_cons_zero]; rfl)
  case hopx1f => rfl
  case hsx1f | hfx1f | hrx1f => kernel_rfl
  case hQx1f => exact fun _ _ _ h => h
  case hwx1f => rfl
  case hix1f => exact (i23 LM.out)
  simp only [Act.put, List.setIfInBounds_toArray, List.set_cons_succ, List.set_cons_zero]
  refine' wpAnyH_take (i := 2) ?h1x2f ?hsx2f ?hfx2f ?hrx2f ?hQx2f (yieldsIf_load_at ?hwx2f 22 (.tmp 7) ?hopx2f (w.heap.size + 1 + 1) 0 rfl (ncells salt) _ (fun W hW => range_row ((hW.block _ (blk_lt G2.out)).trans G2.out)) Tryz.underlying22 rfl ?hix2f) hS ?restx2f
  case h1x2f => (simp only [List.getElem?_toArray, List.getElem?_cons_succ, List.getElem?_cons_zero]; rfl)
  case hopx2f => rfl
  case hsx2f | hfx2f | hrx2f => kernel_rfl
  case hQx2f => exact fun _ _ _ h => h
  case hwx2f => rfl
  case hix2f => exact (i37 LS.out)
  simp only [Act.put, List.setIfInBounds_toArray, List.set_cons_succ, List.set_cons_zero]
  refine' wpAnyH_take (i := 6) ?h1x6f ?hsx6f ?hfx6f ?hrx6f ?hQx6f (Or.inl ⟨?hwx6f, ?hyx6f⟩) hS ?restx6f
  case h1x6f => (simp only [List.getElem?_toArray, List.getElem?_cons_succ, List.getElem?_cons_zero]; rfl)
  case hsx6f | hfx6f | hrx6f => kernel_rfl
  case hQx6f => exact fun _ _ _ h => h
  case hwx6f => rfl
  case hyx6f =>
    intro W hW
    go_simp
    try with_reducible rfl
  simp only [Act.put, List.setIfInBounds_toArray, List.set_cons_succ, List.set_cons_zero]
  refine' wpAnyH_take (i := 7) ?h1x7f ?hsx7f ?hfx7f ?hrx7f ?hQx7f (Or.inl ⟨?hwx7f, ?hyx7f⟩) hS ?restx7f
  case h1x7f => (simp only [List.getElem?_toArray, List.getElem?_cons_succ, List.getElem?_cons_zero]; rfl)
  case hsx7f | hfx7f | hrx7f => kernel_rfl
  case hQx7f => exact fun _ _ _ h => h
  case hwx7f => rfl
  case hyx7f =>
    intro W hW
    go_simp
    try with_reducible rfl
  simp only [Act.put, List.setIfInBounds_toArray, List.set_cons_succ, List.set_cons_zero]
  refine' wpAnyH_take (i := 8) ?h1x8f ?hsx8f ?hfx8f ?hrx8f ?hQx8f (Or.inl ⟨?hwx8f, ?hyx8f⟩) hS ?restx8f
  case h1x8f => (simp only [List.getElem?_toArray, List.getElem?_cons_succ, List.getElem?_cons_zero]; rfl)
  case hsx8f | hfx8f | hrx8f => kernel_rfl
  case hQx8f => exact fun _ _ _ h => h
  case hwx8f => rfl
  case hyx8f =>
    intro W hW
    go_simp
    try with_reducible rfl
  simp only [Act.put, List.setIfInBounds_toArray, List.set_cons_succ, List.set_cons_zero]
  refine wpAnyH_ready (rs := [3]) (by kernel_rfl) (by simp) ?_
  refine' (AllReadyH.cons ?hoc3f (fun K hK => ?stc3f) AllReadyH.nil)
  case hoc3f => (simp only [List.getElem?_toArray, List.getElem?_cons_succ, List.getElem?_cons_zero]; rfl)
  go_simp
  refine (MK.out Wfs (GG.out.below hS GG.out.lt)).mono ?_
  rintro e Wfx3 ⟨rfl, hb⟩
  go_wp2_with fail
  refine hK.out _ _ (hS.trans (hb.mono hS.size)) (fun hHeld => ?_)
  clear hK K
  try simp only [Act.put, List.setIfInBounds_toArray, List.set_cons_succ, List.set_cons_zero]
  clear hS
  have hS := hHeld
  clear hHeld
  clear hb
  refine wpAnyH_ready (rs := [4]) (by kernel_rfl) (by simp) ?_
  refine' (AllReadyH.cons ?hoc4fx3 (fun K hK => ?stc4fx3) AllReadyH.nil)
  case hoc4fx3 => (simp only [List.getElem?_toArray, List.getElem?_cons_succ, List.getElem?_cons_zero]; rfl)
  go_simp
  refine (ASM.out Wfx3).mono ?_
  rintro e Wfx3x4 ⟨q4, c4, rfl, hs, hb⟩
  have SM := Lib.hid hs
  clear hs
  go_wp2_with fail
  refine hK.out _ _ (hS.trans (hb.mono hS.size)) (fun hHeld => ?_)
  clear hK K
  try simp only [Act.put, List.setIfInBounds_toArray, List.set_cons_succ, List.set_cons_zero]
  clear hS
  have hS := hHeld
  clear hHeld
  clear hb
  refine wpAnyH_ready (rs := [5, 9]) (by kernel_rfl) (by simp) ?_
  refine' (AllReadyH.cons ?hoc5fx3x4 (fun K hK => ?stc5fx3x4) (AllReadyH.cons ?hoc9fx3x4 (fun K hK => ?stc9fx3x4) AllReadyH.nil))
  case hoc5fx3x4 => (simp only [List.getElem?_toArray, List.getElem?_cons_succ, List.getElem?_cons_zero]; rfl)
  case hoc9fx3x4 => (simp only [List.getElem?_toArray, List.getElem?_cons_succ, List.getElem?_cons_zero]; rfl)
  case stc5fx3x4 =>
    have k1 := SM.out.str
    go_simp
    refine hK.out _ _ hS (fun hHeld => ?_)
    clear hK K
    try simp only [Act.put, List.setIfInBounds_toArray, List.set_cons_succ, List.set_cons_zero]
    clear hS
    have hS := hHeld
    clear hHeld
    refine wpAnyH_ready (rs := [9]) (by kernel_rfl) (by simp) ?_
    refine' (AllReadyH.cons ?hoc9fx3x4x5 (fun K hK => ?stc9fx3x4x5) AllReadyH.nil)
    case hoc9fx3x4x5 => (simp only [List.getElem?_toArray, List.getElem?_cons_succ, List.getElem?_cons_zero]; rfl)
    go_simp
    refine (RM.out Wfx3x4 _ _ _ ((hS.block _ (blk_lt G0.out)).trans G0.out) ((hS.block _ (blk_lt G1.out)).trans G1.out) ((hS.block _ (blk_lt G2.out)).trans G2.out)).mono ?_
    rintro e Wfx3x4x5x9 ⟨q5, c5, rfl, hs, hb⟩
    have SM := Lib.hid (SM.out.below hb)
    have SR := Lib.hid hs
    clear hs
    go_wp2_with fail
    refine hK.out _ _ (hS.trans (hb.mono hS.size)) (fun hHeld => ?_)
    clear hK K
    try simp only [Act.put, List.setIfInBounds_toArray, List.set_cons_succ, List.set_cons_zero]
    clear hS
    have hS := hHeld
    clear hHeld
    clear hb
    refine wpAnyH_ready (rs := [10]) (by kernel_rfl) (by simp) ?_
    refine' (AllReadyH.cons ?hoc10fx3x4x5x9 (fun K hK => ?stc10fx3x4x5x9) AllReadyH.nil)
    case hoc10fx3x4x5x9 => (simp only [List.getElem?_toArray, List.getElem?_cons_succ, List.getElem?_cons_zero]; rfl)
    have k2 := SR.out.str
    go_simp
    refine hK.out _ _ hS (fun hHeld => ?_)
    clear hK K
    try simp only [Act.put, List.setIfInBounds_toArray, List.set_cons_succ, List.set_cons_zero]
    clear hS
    have hS := hHeld
    clear hHeld
    refine' wpAnyH_take (i := 11) ?h1x11fx3x4x5x9x10 ?hsx11fx3x4x5x9x10 ?hfx11fx3x4x5x9x10 ?hrx11fx3x4x5x9x10 ?hQx11fx3x4x5x9x10 (Or.inl ⟨?hwx11fx3x4x5x9x10, ?hyx11fx3x4x5x9x10⟩) hS ?restx11fx3x4x5x9x10
    case h1x11fx3x4x5x9x10 => (simp only [List.getElem?_toArray, List.getElem?_cons_succ, List.getElem?_cons_zero]; rfl)
    case hsx11fx3x4x5x9x10 | hfx11fx3x4x5x9x10 | hrx11fx3x4x5x9x10 => kernel_rfl
    case hQx11fx3x4x5x9x10 => exact fun _ _ _ h => h
    case hwx11fx3x4x5x9x10 => rfl
    case hyx11fx3x4x5x9x10 =>
      intro W hW
      go_simp
      try with_reducible rfl
    simp only [Act.put, List.setIfInBounds_toArray, List.set_cons_succ, List.set_cons_zero]
    refine wpAnyH_done (by kernel_rfl) ?_ _
    have B6 := Lib.hid (B5.out.trans (hS.mono B5.out.size))
    have G1 := Lib.hid ((hS.block _ (blk_lt G1.out)).trans G1.out)
    have GV := Lib.hid ((hS.block _ (blk_lt GV.out)).trans GV.out)
    have F1 := Lib.hid ((hS.block _ (blk_lt F1.out)).trans F1.out)
    have F2 := Lib.hid ((hS.block _ (blk_lt F2.out)).trans F2.out)
    have SQ := Lib.hid (SQ.out.below hS)
    have GG := Lib.hid (GG.out.below hS GG.out.lt)
    clear hS G0 G2 MK ASM RM B5
    go_wp2_with fail
    clear e1
    have e2 := EV.out
    have e3 := EE.out
    have e4 := E1.out
    have e5 := E2.out
    refine wp_region_held_drew (S := fun W => Below Wfx3x4x5x9.heap.size Wfx3x4x5x9 W) (by kernel_rfl) ((Below.refl _ _).drew) (fun hS => ?_)
    have hb0 : Below Wfx3x4x5x9.heap.size Wfx3x4x5x9 Wfx3x4x5x9.drew := (Below.refl _ _).drew
    clear hb0 
    generalize Wfx3x4x5x9.drew = Wgis at hS  ⊢
    refine wpAnyH_ready (rs := [0]) (by kernel_rfl) (by simp) ?_
    refine' (AllReadyH.cons ?hoc0gi (fun K hK => ?stc0gi) AllReadyH.nil)
    case hoc0gi => (simp only [List.getElem?_toArray, List.getElem?_cons_zero]; rfl)
    go_simp
    refine (AL.out Wgis (GG.out.below hS GG.out.lt)).mono ?_
    rintro e Wgix0 ⟨rfl, hb⟩
    go_wp2_with fail
    refine hK.out _ _ (hS.trans (hb.mono hS.size)) (fun hHeld => ?_)
    clear hK K
    try simp only [Act.put, List.setIfInBounds_toArray, List.set_cons_succ, List.set_cons_zero]
    clear hS
    have hS := hHeld
    clear hHeld
    clear hb
    refine' wpAnyH_take (i := 1) ?h1x1gix0 ?hsx1gix0 ?hfx1gix0 ?hrx1gix0 ?hQx1gix0 (Or.inl ⟨?hwx1gix0, ?hyx1gix0⟩) hS ?restx1gix0
    case h1x1gix0 => (simp only [List.getElem?_toArray, List.getElem?_cons_succ, List.getElem?_cons_zero]; rfl)
    case hsx1gix0 | hfx1gix0 | hrx1gix0 => kernel_rfl
    case hQx1gix0 => exact fun _ _ _ h => h
    case hwx1gix0 => rfl
    case hyx1gix0 =>
      intro W hW
      go_simp
      try with_reducible rfl
    simp only [Act.put, List.setIfInBounds_toArray, List.set_cons_succ, List.set_cons_zero]
    refine' wpAnyH_take (i := 2) ?h1x2gix0 ?hsx2gix0 ?hfx2gix0 ?hrx2gix0 ?hQx2gix0 (Or.inl ⟨?hwx2gix0, ?hyx2gix0⟩) hS ?restx2gix0
    case h1x2gix0 => (simp only [List.getElem?_toArray, List.getElem?_cons_succ, List.getElem?_cons_zero]; rfl)
    case hsx2gix0 | hfx2gix0 | hrx2gix0 => kernel_rfl
    case hQx2gix0 => exact fun _ _ _ h => h
    case hwx2gix0 => rfl
    case hyx2gix0 =>
      intro W hW
      go_simp
      try with_reducible rfl
    simp only [Act.put, List.setIfInBounds_toArray, List.set_cons_succ, List.set_cons_zero]
    refine' wpAnyH_take (i := 4) ?h1x4gix0 ?hsx4gix0 ?hfx4gix0 ?hrx4gix0 ?hQx4gix0 (Or.inl ⟨?hwx4gix0, ?hyx4gix0⟩) hS ?restx4gix0
    case h1x4gix0 => (simp only [List.getElem?_toArray, List.getElem?_cons_succ, List.getElem?_cons_zero]; rfl)
    case hsx4gix0 | hfx4gix0 | hrx4gix0 => kernel_rfl
    case hQx4gix0 => exact fun _ _ _ h => h
    case hwx4gix0 => rfl
    case hyx4gix0 =>
      intro W hW
      go_simp
      try with_reducible rfl
    simp only [Act.put, List.setIfInBounds_toArray, List.set_cons_succ, List.set_cons_zero]
    refine' wpAnyH_take (i := 3) ?h1x3gix0 ?hsx3gix0 ?hfx3gix0 ?hrx3gix0 ?hQx3gix0 (Or.inl ⟨?hwx3gix0, ?hyx3gix0⟩) hS ?restx3gix0
    case h1x3gix0 => (simp only [List.getElem?_toArray, List.getElem?_cons_succ, List.getElem?_cons_zero]; rfl)
    case hsx3gix0 | hfx3gix0 | hrx3gix0 => kernel_rfl
    case hQx3gix0 => exact fun _ _ _ h => h
    case hwx3gix0 => rfl
    case hyx3gix0 =>
      intro W hW
      have k3 := (SV.out W _ ((hW.block _ (blk_lt GV.out)).trans GV.out)).str
      go_simp
      try with_reducible rfl
    simp only [Act.put, List.setIfInBounds_toArray, List.set_cons_succ, List.set_cons_zero]
    refine' wpAnyH_take (i := 5) ?h1x5gix0 ?hsx5gix0 ?hfx5gix0 ?hrx5gix0 ?hQx5gix0 (Or.inl ⟨?hwx5gix0, ?hyx5gix0⟩) hS ?restx5gix0
    case h1x5gix0 => (simp only [List.getElem?_toArray, List.getElem?_cons_succ, List.getElem?_cons_zero]; rfl)
    case hsx5gix0 | hfx5gix0 | hrx5gix0 => kernel_rfl
    case hQx5gix0 => exact fun _ _ _ h => h
    case hwx5gix0 => rfl
    case hyx5gix0 =>
      intro W hW
      have k4 := (SQ.out.below hW).str
      go_simp
      try with_reducible rfl
    simp only [Act.put, List.setIfInBounds_toArray, List.set_cons_succ, List.set_cons_zero]
    refine' wpAnyH_take (i := 6) ?h1x6gix0 ?hsx6gix0 ?hfx6gix0 ?hrx6gix0 ?hQx6gix0 (Or.inl ⟨?hwx6gix0, ?hyx6gix0⟩) hS ?restx6gix0
    case h1x6gix0 => (simp only [List.getElem?_toArray, List.getElem?_cons_succ, List.getElem?_cons_zero]; rfl)
    case hsx6gix0 | hfx6gix0 | hrx6gix0 => kernel_rfl
    case hQx6gix0 => exact fun _ _ _ h => h
    case hwx6gix0 => rfl
    case hyx6gix0 =>
      intro W hW
      go_simp
      try with_reducible rfl
    simp only [Act.put, List.setIfInBounds_toArray, List.set_cons_succ, List.set_cons_zero]
    refine' wpAnyH_take (i := 7) ?h1x7gix0 ?hsx7gix0 ?hfx7gix0 ?hrx7gix0 ?hQx7gix0 (Or.inl ⟨?hwx7gix0, ?hyx7gix0⟩) hS ?restx7gix0
    case h1x7gix0 => (simp only [List.getElem?_toArray, List.getElem?_cons_succ, List.getElem?_cons_zero]; rfl)
    case hsx7gix0 | hfx7gix0 | hrx7gix0 => kernel_rfl
    case hQx7gix0 => exact fun _ _ _ h => h
    case hwx7gix0 => rfl
    case hyx7gix0 =>
      intro W hW
      go_simp
      try with_reducible rfl
    simp only [Act.put, List.setIfInBounds_toArray, List.set_cons_succ, List.set_cons_zero]
    refine' wpAnyH_take (i := 8) ?h1x8gix0 ?hsx8gix0 ?hfx8gix0 ?hrx8gix0 ?hQx8gix0 (Or.inl ⟨?hwx8gix0, ?hyx8gix0⟩) hS ?restx8gix0
    case h1x8gix0 => (simp only [List.getElem?_toArray, List.getElem?_cons_succ, List.getElem?_cons_zero]; rfl)
    case hsx8gix0 | hfx8gix0 | hrx8gix0 => kernel_rfl
    case hQx8gix0 => exact fun _ _ _ h => h
    case hwx8gix0 => rfl
    case hyx8gix0 =>
      intro W hW
      go_simp
      try with_reducible rfl
    simp only [Act.put, List.setIfInBounds_toArray, List.set_cons_succ, List.set_cons_zero]
    refine' wpAnyH_take (i := 9) ?h1x9gix0 ?hsx9gix0 ?hfx9gix0 ?hrx9gix0 ?hQx9gix0 (Or.inl ⟨?hwx9gix0, ?hyx9gix0⟩) hS ?restx9gix0
    case h1x9gix0 => (simp only [List.getElem?_toArray, List.getElem?_cons_succ, List.getElem?_cons_zero]; rfl)
    case hsx9gix0 | hfx9gix0 | hrx9gix0 => kernel_rfl
    case hQx9gix0 => exact fun _ _ _ h => h
    case hwx9gix0 => rfl
    case hyx9gix0 =>
      intro W hW
      go_simp
      try with_reducible rfl
    simp only [Act.put, List.setIfInBounds_toArray, List.set_cons_succ, List.set_cons_zero]
    refine' wpAnyH_take (i := 10) ?h1x10gix0 ?hsx10gix0 ?hfx10gix0 ?hrx10gix0 ?hQx10gix0 (Or.inl ⟨?hwx10gix0, ?hyx10gix0⟩) hS ?restx10gix0
    case h1x10gix0 => (simp only [List.getElem?_toArray, List.getElem?_cons_succ, List.getElem?_cons_zero]; rfl)
    case hsx10gix0 | hfx10gix0 | hrx10gix0 => kernel_rfl
    case hQx10gix0 => exact fun _ _ _ h => h
    case hwx10gix0 => rfl
    case hyx10gix0 =>
      intro W hW
      go_simp
      try with_reducible rfl
    simp only [Act.put, List.setIfInBounds_toArray, List.set_cons_succ, List.set_cons_zero]
    refine' wpAnyH_take (i := 11) ?h1x11gix0 ?hsx11gix0 ?hfx11gix0 ?hrx11gix0 ?hQx11gix0 (Or.inl ⟨?hwx11gix0, ?hyx11gix0⟩) hS ?restx11gix0
    case h1x11gix0 => (simp only [List.getElem?_toArray, List.getElem?_cons_succ, List.getElem?_cons_zero]; rfl)
    case hsx11gix0 | hfx11gix0 | hrx11gix0 => kernel_rfl
    case hQx11gix0 => exact fun _ _ _ h => h
    case hwx11gix0 => rfl
    case hyx11gix0 =>
      intro W hW
      go_simp
      try with_reducible rfl
    simp only [Act.put, List.setIfInBounds_toArray, List.set_cons_succ, List.set_cons_zero]
    refine' wpAnyH_take (i := 12) ?h1x12gix0 ?hsx12gix0 ?hfx12gix0 ?hrx12gix0 ?hQx12gix0 (Or.inl ⟨?hwx12gix0, ?hyx12gix0⟩) hS ?restx12gix0
    case h1x12gix0 => (simp only [List.getElem?_toArray, List.getElem?_cons_succ, List.getElem?_cons_zero]; rfl)
    case hsx12gix0 | hfx12gix0 | hrx12gix0 => kernel_rfl
    case hQx12gix0 => exact fun _ _ _ h => h
    case hwx12gix0 => rfl
    case hyx12gix0 =>
      intro W hW
      go_simp
      try with_reducible rfl
    simp only [Act.put, List.setIfInBounds_toArray, List.set_cons_succ, List.set_cons_zero]
    refine' wpAnyH_take (i := 13) ?h1x13gix0 ?hsx13gix0 ?hfx13gix0 ?hrx13gix0 ?hQx13gix0 (Or.inl ⟨?hwx13gix0, ?hyx13gix0⟩) hS ?restx13gix0
    case h1x13gix0 => (simp only [List.getElem?_toArray, List.getElem?_cons_succ, List.getElem?_cons_zero]; rfl)
    case hsx13gix0 | hfx13gix0 | hrx13gix0 => kernel_rfl
    case hQx13gix0 => exact fun _ _ _ h => h
    case hwx13gix0 => rfl
    case hyx13gix0 =>
      intro W hW
      go_simp
      try with_reducible rfl
    simp only [Act.put, List.setIfInBounds_toArray, List.set_cons_succ, List.set_cons_zero]
    refine' wpAnyH_take (i := 14) ?h1x14gix0 ?hsx14gix0 ?hfx14gix0 ?hrx14gix0 ?hQx14gix0 (Or.inl ⟨?hwx14gix0, ?hyx14gix0⟩) hS ?restx14gix0
    case h1x14gix0 => (simp only [List.getElem?_toArray, List.getElem?_cons_succ, List.getElem?_cons_zero]; rfl)
    case hsx14gix0 | hfx14gix0 | hrx14gix0 => kernel_rfl
    case hQx14gix0 => exact fun _ _ _ h => h
    case hwx14gix0 => rfl
    case hyx14gix0 =>
      intro W hW
      go_simp
      try with_reducible rfl
    simp only [Act.put, List.setIfInBounds_toArray, List.set_cons_succ, List.set_cons_zero]
    refine' wpAnyH_take (i := 16) ?h1x16gix0 ?hsx16gix0 ?hfx16gix0 ?hrx16gix0 ?hQx16gix0 (Or.inl ⟨?hwx16gix0, ?hyx16gix0⟩) hS ?restx16gix0
    case h1x16gix0 => (simp only [List.getElem?_toArray, List.getElem?_cons_succ, List.getElem?_cons_zero]; rfl)
    case hsx16gix0 | hfx16gix0 | hrx16gix0 => kernel_rfl
    case hQx16gix0 => exact fun _ _ _ h => h
    case hwx16gix0 => rfl
    case hyx16gix0 =>
      intro W hW
      go_simp
      try with_reducible rfl
    simp only [Act.put, List.setIfInBounds_toArray, List.set_cons_succ, List.set_cons_zero]
    refine' wpAnyH_take (i := 17) ?h1x17gix0 ?hsx17gix0 ?hfx17gix0 ?hrx17gix0 ?hQx17gix0 (Or.inl ⟨?hwx17gix0, ?hyx17gix0⟩) hS ?restx17gix0
    case h1x17gix0 => (simp only [List.getElem?_toArray, List.getElem?_cons_succ, List.getElem?_cons_zero]; rfl)
    case hsx17gix0 | hfx17gix0 | hrx17gix0 => kernel_rfl
    case hQx17gix0 => exact fun _ _ _ h => h
    case hwx17gix0 => rfl
    case hyx17gix0 =>
      intro W hW
      go_simp
      try with_reducible rfl
    simp only [Act.put, List.setIfInBounds_toArray, List.set_cons_succ, List.set_cons_zero]
    refine' wpAnyH_take (i := 15) ?h1x15gix0 ?hsx15gix0 ?hfx15gix0 ?hrx15gix0 ?hQx15gix0 (Or.inl ⟨?hwx15gix0, ?hyx15gix0⟩) hS ?restx15gix0
    case h1x15gix0 => (simp only [List.getElem?_toArray, List.getElem?_cons_succ, List.getElem?_cons_zero]; rfl)
    case hsx15gix0 | hfx15gix0 | hrx15gix0 => kernel_rfl
    case hQx15gix0 => exact fun _ _ _ h => h
    case hwx15gix0 => rfl
    case hyx15gix0 =>
      intro W hW
      have k5 := (S1.out W _ ((hW.block _ (blk_lt F1.out)).trans F1.out)).str
      go_simp
      try with_reducible rfl
    simp only [Act.put, List.setIfInBounds_toArray, List.set_cons_succ, List.set_cons_zero]
    refine wpAnyH_ready (rs := [18]) (by kernel_rfl) (by simp) ?_
    refine' (AllReadyH.cons ?hoc18gix0 (fun K hK => ?stc18gix0) AllReadyH.nil)
    case hoc18gix0 => (simp only [List.getElem?_toArray, List.getElem?_cons_succ, List.getElem?_cons_zero]; rfl)
    go_simp
    refine (D1.out Wgix0 _ ((hS.block _ (blk_lt G1.out)).trans G1.out)).mono ?_
    rintro e Wgix0x18 ⟨q7, c7, rfl, hs, hb⟩
    have SD := Lib.hid hs
    clear hs
    go_wp2_with fail
    refine hK.out _ _ (hS.trans (hb.mono hS.size)) (fun hHeld => ?_)
    clear hK K
    try simp only [Act.put, List.setIfInBounds_toArray, List.set_cons_succ, List.set_cons_zero]
    clear hS
    have hS := hHeld
    clear hHeld
    clear hb
    refine wpAnyH_ready (rs := [19]) (by kernel_rfl) (by simp) ?_
    refine' (AllReadyH.cons ?hoc19gix0x18 (fun K hK => ?stc19gix0x18) AllReadyH.nil)
    case hoc19gix0x18 => (simp only [List.getElem?_toArray, List.getElem?_cons_succ, List.getElem?_cons_zero]; rfl)
    have k6 := SD.out.str
    go_simp
    refine hK.out _ _ hS (fun hHeld => ?_)
    clear hK K
    try simp only [Act.put, List.setIfInBounds_toArray, List.set_cons_succ, List.set_cons_zero]
    clear hS
    have hS := hHeld
    clear hHeld
    refine' wpAnyH_take (i := 20) ?h1x20gix0x18x19 ?hsx20gix0x18x19 ?hfx20gix0x18x19 ?hrx20gix0x18x19 ?hQx20gix0x18x19 (Or.inl ⟨?hwx20gix0x18x19, ?hyx20gix0x18x19⟩) hS ?restx20gix0x18x19
    case h1x20gix0x18x19 => (simp only [List.getElem?_toArray, List.getElem?_cons_succ, List.getElem?_cons_zero]; rfl)
    case hsx20gix0x18x19 | hfx20gix0x18x19 | hrx20gix0x18x19 => kernel_rfl
    case hQx20gix0x18x19 => exact fun _ _ _ h => h
    case hwx20gix0x18x19 => rfl
    case hyx20gix0x18x19 =>
      intro W hW
      go_simp
      try with_reducible rfl
    simp only [Act.put, List.setIfInBounds_toArray, List.set_cons_succ, List.set_cons_zero]
    refine' wpAnyH_take (i := 21) ?h1x21gix0x18x19 ?hsx21gix0x18x19 ?hfx21gix0x18x19 ?hrx21gix0x18x19 ?hQx21gix0x18x19 (Or.inl ⟨?hwx21gix0x18x19, ?hyx21gix0x18x19⟩) hS ?restx21gix0x18x19
    case h1x21gix0x18x19 => (simp only [List.getElem?_toArray, List.getElem?_cons_succ, List.getElem?_cons_zero]; rfl)
    case hsx21gix0x18x19 | hfx21gix0x18x19 | hrx21gix0x18x19 => kernel_rfl
    case hQx21gix0x18x19 => exact fun _ _ _ h => h
    case hwx21gix0x18x19 => rfl
    case hyx21gix0x18x19 =>
      intro W hW
      go_simp
      try with_reducible rfl
    simp only [Act.put, List.setIfInBounds_toArray, List.set_cons_succ, List.set_cons_zero]
    refine' wpAnyH_take (i := 22) ?h1x22gix0x18x19 ?hsx22gix0x18x19 ?hfx22gix0x18x19 ?hrx22gix0x18x19 ?hQx22gix0x18x19 (Or.inl ⟨?hwx22gix0x18x19, ?hyx22gix0x18x19⟩) hS ?restx22gix0x18x19
    case h1x22gix0x18x19 => (simp only [List.getElem?_toArray, List.getElem?_cons_succ, List.getElem?_cons_zero]; rfl)
    case hsx22gix0x18x19 | hfx22gix0x18x19 | hrx22gix0x18x19 => kernel_rfl
    case hQx22gix0x18x19 => exact fun _ _ _ h => h
    case hwx22gix0x18x19 => rfl
    case hyx22gix0x18x19 =>
      intro W hW
      go_simp
      try with_reducible rfl
    simp only [Act.put, List.setIfInBounds_toArray, List.set_cons_succ, List.set_cons_zero]
    refine' wpAnyH_take (i := 23) ?h1x23gix0x18x19 ?hsx23gix0x18x19 ?hfx23gix0x18x19 ?hrx23gix0x18x19 ?hQx23gix0x18x19 (Or.inl ⟨?hwx23gix0x18x19, ?hyx23gix0x18x19⟩) hS ?restx23gix0x18x19
    case h1x23gix0x18x19 => (simp only [List.getElem?_toArray, List.getElem?_cons_succ, List.getElem?_cons_zero]; rfl)
    case hsx23gix0x18x19 | hfx23gix0x18x19 | hrx23gix0x18x19 => kernel_rfl
    case hQx23gix0x18x19 => exact fun _ _ _ h => h
    case hwx23gix0x18x19 => rfl
    case hyx23gix0x18x19 =>
      intro W hW
      go_simp
      try with_reducible rfl
    simp only [Act.put, List.setIfInBounds_toArray, List.set_cons_succ, List.set_cons_zero]
    refine' wpAnyH_take (i := 25) ?h1x25gix0x18x19 ?hsx25gix0x18x19 ?hfx25gix0x18x19 ?hrx25gix0x18x19 ?hQx25gix0x18x19 (Or.inl ⟨?hwx25gix0x18x19, ?hyx25gix0x18x19⟩) hS ?restx25gix0x18x19
    case h1x25gix0x18x19 => (simp only [List.getElem?_toArray, List.getElem?_cons_succ, List.getElem?_cons_zero]; rfl)
    case hsx25gix0x18x19 | hfx25gix0x18x19 | hrx25gix0x18x19 => kernel_rfl
    case hQx25gix0x18x19 => exact fun _ _ _ h => h
    case hwx25gix0x18x19 => rfl
    case hyx25gix0x18x19 =>
      intro W hW
      go_simp
      try with_reducible rfl
    simp only [Act.put, List.setIfInBounds_toArray, List.set_cons_succ, List.set_cons_zero]
    refine' wpAnyH_take (i := 26) ?h1x26gix0x18x19 ?hsx26gix0x18x19 ?hfx26gix0x18x19 ?hrx26gix0x18x19 ?hQx26gix0x18x19 (Or.inl ⟨?hwx26gix0x18x19, ?hyx26gix0x18x19⟩) hS ?restx26gix0x18x19
    case h1x26gix0x18x19 => (simp only [List.getElem?_toArray, List.getElem?_cons_succ, List.getElem?_cons_zero]; rfl)
    case hsx26gix0x18x19 | hfx26gix0x18x19 | hrx26gix0x18x19 => kernel_rfl
    case hQx26gix0x18x19 => exact fun _ _ _ h => h
    case hwx26gix0x18x19 => rfl
    case hyx26gix0x18x19 =>
      intro W hW
      go_simp
      try with_reducible rfl
    simp only [Act.put, List.setIfInBounds_toArray, List.set_cons_succ, List.set_cons_zero]
    refine' wpAnyH_take (i := 24) ?h1x24gix0x18x19 ?hsx24gix0x18x19 ?hfx24gix0x18x19 ?hrx24gix0x18x19 ?hQx24gix0x18x19 (Or.inl ⟨?hwx24gix0x18x19, ?hyx24gix0x18x19⟩) hS ?restx24gix0x18x19
    case h1x24gix0x18x19 => (simp only [List.getElem?_toArray, List.getElem?_cons_succ, List.getElem?_cons_zero]; rfl)
    case hsx24gix0x18x19 | hfx24gix0x18x19 | hrx24gix0x18x19 => kernel_rfl
    case hQx24gix0x18x19 => exact fun _ _ _ h => h
    case hwx24gix0x18x19 => rfl
    case hyx24gix0x18x19 =>
      intro W hW
      have k7 := (S2.out W _ ((hW.block _ (blk_lt F2.out)).trans F2.out)).str
      go_simp
      try with_reducible rfl
    simp only [Act.put, List.setIfInBounds_toArray, List.set_cons_succ, List.set_cons_zero]
    refine wpAnyH_ready (rs := [27]) (by kernel_rfl) (by simp) ?_
    refine' (AllReadyH.cons ?hoc27gix0x18x19 (fun K hK => ?stc27gix0x18x19) AllReadyH.nil)
    case hoc27gix0x18x19 => (simp only [List.getElem?_toArray, List.getElem?_cons_succ, List.getElem?_cons_zero]; rfl)
    go_simp
    refine (D2.out Wgix0x18 _ ((hS.block _ (blk_lt G1.out)).trans G1.out)).mono ?_
    rintro e Wgix0x18x19x27 ⟨q8, c8, rfl, hs, hb⟩
    have SD := Lib.hid (SD.out.below hb)
    have SE := Lib.hid hs
    clear hs
    go_wp2_with fail
    refine hK.out _ _ (hS.trans (hb.mono hS.size)) (fun hHeld => ?_)
    clear hK K
    try simp only [Act.put, List.setIfInBounds_toArray, List.set_cons_succ, List.set_cons_zero]
    clear hS
    have hS := hHeld
    clear hHeld
    clear hb
    refine wpAnyH_ready (rs := [28]) (by kernel_rfl) (by simp) ?_
    refine' (AllReadyH.cons ?hoc28gix0x18x19x27 (fun K hK => ?stc28gix0x18x19x27) AllReadyH.nil)
    case hoc28gix0x18x19x27 => (simp only [List.getElem?_toArray, List.getElem?_cons_succ, List.getElem?_cons_zero]; rfl)
    have k8 := SE.out.str
    go_simp
    refine hK.out _ _ hS (fun hHeld => ?_)
    clear hK K
    try simp only [Act.put, List.setIfInBounds_toArray, List.set_cons_succ, List.set_cons_zero]
    clear hS
    have hS := hHeld
    clear hHeld
    refine' wpAnyH_take (i := 29) ?h1x29gix0x18x19x27x28 ?hsx29gix0x18x19x27x28 ?hfx29gix0x18x19x27x28 ?hrx29gix0x18x19x27x28 ?hQx29gix0x18x19x27x28 (Or.inl ⟨?hwx29gix0x18x19x27x28, ?hyx29gix0x18x19x27x28⟩) hS ?restx29gix0x18x19x27x28
    case h1x29gix0x18x19x27x28 => (simp only [List.getElem?_toArray, List.getElem?_cons_succ, List.getElem?_cons_zero]; rfl)
    case hsx29gix0x18x19x27x28 | hfx29gix0x18x19x27x28 | hrx29gix0x18x19x27x28 => kernel_rfl
    case hQx29gix0x18x19x27x28 => exact fun _ _ _ h => h
    case hwx29gix0x18x19x27x28 => rfl
    case hyx29gix0x18x19x27x28 =>
      intro W hW
      go_simp
      try with_reducible rfl
    simp only [Act.put, List.setIfInBounds_toArray, List.set_cons_succ, List.set_cons_zero]
    refine' wpAnyH_take (i := 30) ?h1x30gix0x18x19x27x28 ?hsx30gix0x18x19x27x28 ?hfx30gix0x18x19x27x28 ?hrx30gix0x18x19x27x28 ?hQx30gix0x18x19x27x28 (Or.inl ⟨?hwx30gix0x18x19x27x28, ?hyx30gix0x18x19x27x28⟩) hS ?restx30gix0x18x19x27x28
    case h1x30gix0x18x19x27x28 => (simp only [List.getElem?_toArray, List.getElem?_cons_succ, List.getElem?_cons_zero]; rfl)
    case hsx30gix0x18x19x27x28 | hfx30gix0x18x19x27x28 | hrx30gix0x18x19x27x28 => kernel_rfl
    case hQx30gix0x18x19x27x28 => exact fun _ _ _ h => h
    case hwx30gix0x18x19x27x28 => rfl
    case hyx30gix0x18x19x27x28 =>
      intro W hW
      go_simp
      try with_reducible rfl
    simp only [Act.put, List.setIfInBounds_toArray, List.set_cons_succ, List.set_cons_zero]
    refine' wpAnyH_take (i := 31) ?h1x31gix0x18x19x27x28 ?hsx31gix0x18x19x27x28 ?hfx31gix0x18x19x27x28 ?hrx31gix0x18x19x27x28 ?hQx31gix0x18x19x27x28 (Or.inl ⟨?hwx31gix0x18x19x27x28, ?hyx31gix0x18x19x27x28⟩) hS ?restx31gix0x18x19x27x28
    case h1x31gix0x18x19x27x28 => (simp only [List.getElem?_toArray, List.getElem?_cons_succ, List.getElem?_cons_zero]; rfl)
    case hsx31gix0x18x19x27x28 | hfx31gix0x18x19x27x28 | hrx31gix0x18x19x27x28 => kernel_rfl
    case hQx31gix0x18x19x27x28 => exact fun _ _ _ h => h
    case hwx31gix0x18x19x27x28 => rfl
    case hyx31gix0x18x19x27x28 =>
      intro W hW
      go_simp
      try with_reducible rfl
    simp only [Act.put, List.setIfInBounds_toArray, List.set_cons_succ, List.set_cons_zero]
    refine wpAnyH_done (by kernel_rfl) ?_ _
    have BZ := Lib.hid (B6.out.trans (hS.mono B6.out.size))
    clear hS
    go_wp2_with fail
    go_ret
    exact ⟨rfl, BZ.out⟩
  case stc9fx3x4 =>
    go_simp
    refine (RM.out Wfx3x4 _ _ _ ((hS.block _ (blk_lt G0.out)).trans G0.out) ((hS.block _ (blk_lt G1.out)).trans G1.out) ((hS.block _ (blk_lt G2.out)).trans G2.out)).mono ?_
    rintro e Wfx3x4x9 ⟨q5, c5, rfl, hs, hb⟩
    have SM := Lib.hid (SM.out.below hb)
    have SR := Lib.hid hs
    clear hs
    go_wp2_with fail
    refine hK.out _ _ (hS.trans (hb.mono hS.size)) (fun hHeld => ?_)
    clear hK K
    try simp only [Act.put, List.setIfInBounds_toArray, List.set_cons_succ, List.set_cons_zero]
    clear hS
    have hS := hHeld
    clear hHeld
    clear hb
    refine wpAnyH_ready (rs := [5, 10]) (by kernel_rfl) (by simp) ?_
    refine' (AllReadyH.cons ?hoc5fx3x4x9 (fun K hK => ?stc5fx3x4x9) (AllReadyH.cons ?hoc10fx3x4x9 (fun K hK => ?stc10fx3x4x9) AllReadyH.nil))
    case hoc5fx3x4x9 => (simp only [List.getElem?_toArray, List.getElem?_cons_succ, List.getElem?_cons_zero]; rfl)
    case hoc10fx3x4x9 => (simp only [List.getElem?_toArray, List.getElem?_cons_succ, List.getElem?_cons_zero]; rfl)
    case stc5fx3x4x9 =>
      have k1 := SM.out.str
      go_simp
      refine hK.out _ _ hS (fun hHeld => ?_)
      clear hK K
      try simp only [Act.put, List.setIfInBounds_toArray, List.set_cons_succ, List.set_cons_zero]
      clear hS
      have hS := hHeld
      clear hHeld
      refine wpAnyH_ready (rs := [10]) (by kernel_rfl) (by simp) ?_
      refine' (AllReadyH.cons ?hoc10fx3x4x9x5 (fun K hK => ?stc10fx3x4x9x5) AllReadyH.nil)
      case hoc10fx3x4x9x5 => (simp only [List.getElem?_toArray, List.getElem?_cons_succ, List.getElem?_cons_zero]; rfl)
      have k2 := SR.out.str
      go_simp
      refine hK.out _ _ hS (fun hHeld => ?_)
      clear hK K
      try simp only [Act.put, List.setIfInBounds_toArray, List.set_cons_succ, List.set_cons_zero]
      clear hS
      have hS := hHeld
      clear hHeld
      refine' wpAnyH_take (i := 11) ?h1x11fx3x4x9x5x10 ?hsx11fx3x4x9x5x10 ?hfx11fx3x4x9x5x10 ?hrx11fx3x4x9x5x10 ?hQx11fx3x4x9x5x10 (Or.inl ⟨?hwx11fx3x4x9x5x10, ?hyx11fx3x4x9x5x10⟩) hS ?restx11fx3x4x9x5x10
      case h1x11fx3x4x9x5x10 => (simp only [List.getElem?_toArray, List.getElem?_cons_succ, List.getElem?_cons_zero]; rfl)
      case hsx11fx3x4x9x5x10 | hfx11fx3x4x9x5x10 | hrx11fx3x4x9x5x10 => kernel_rfl
      case hQx11fx3x4x9x5x10 => exact fun _ _ _ h => h
      case hwx11fx3x4x9x5x10 => rfl
      case hyx11fx3x4x9x5x10 =>
        intro W hW
        go_simp
        try with_reducible rfl
      simp only [Act.put, List.setIfInBounds_toArray, List.set_cons_succ, List.set_cons_zero]
      refine wpAnyH_done (by kernel_rfl) ?_ _
      have B6 := Lib.hid (B5.out.trans (hS.mono B5.out.size))
      have G1 := Lib.hid ((hS.block _ (blk_lt G1.out)).trans G1.out)
      have GV := Lib.hid ((hS.block _ (blk_lt GV.out)).trans GV.out)
      have F1 := Lib.hid ((hS.block _ (blk_lt F1.out)).trans F1.out)
      have F2 := Lib.hid ((hS.block _ (blk_lt F2.out)).trans F2.out)
      have SQ := Lib.hid (SQ.out.below hS)
      have GG := Lib.hid (GG.out.below hS GG.out.lt)
      clear hS G0 G2 MK ASM RM B5
      go_wp2_with fail
      clear e1
      have e2 := EV.out
      have e3 := EE.out
      have e4 := E1.out
      have e5 := E2.out
      refine wp_region_held_drew (S := fun W => Below Wfx3x4x9.heap.size Wfx3x4x9 W) (by kernel_rfl) ((Below.refl _ _).drew) (fun hS => ?_)
      have hb0 : Below Wfx3x4x9.heap.size Wfx3x4x9 Wfx3x4x9.drew := (Below.refl _ _).drew
      clear hb0 
      generalize Wfx3x4x9.drew = Wgjs at hS  ⊢
      refine wpAnyH_ready (rs := [0]) (by kernel_rfl) (by simp) ?_
      refine' (AllReadyH.cons ?hoc0gj (fun K hK => ?stc0gj) AllReadyH.nil)
      case hoc0gj => (simp only [List.getElem?_toArray, List.getElem?_cons_zero]; rfl)
      go_simp
      refine (AL.out Wgjs (GG.out.below hS GG.out.lt)).mono ?_
      rintro e Wgjx0 ⟨rfl, hb⟩
      go_wp2_with fail
      refine hK.out _ _ (hS.trans (hb.mono hS.size)) (fun hHeld => ?_)
      clear hK K
      try simp only [Act.put, List.setIfInBounds_toArray, List.set_cons_succ, List.set_cons_zero]
      clear hS
      have hS := hHeld
      clear hHeld
      clear hb
      refine' wpAnyH_take (i := 1) ?h1x1gjx0 ?hsx1gjx0 ?hfx1gjx0 ?hrx1gjx0 ?hQx1gjx0 (Or.inl ⟨?hwx1gjx0, ?hyx1gjx0⟩) hS ?restx1gjx0
      case h1x1gjx0 => (simp only [List.getElem?_toArray, List.getElem?_cons_succ, List.getElem?_cons_zero]; rfl)
      case hsx1gjx0 | hfx1gjx0 | hrx1gjx0 => kernel_rfl
      case hQx1gjx0 => exact fun _ _ _ h => h
      case hwx1gjx0 => rfl
      case hyx1gjx0 =>
        intro W hW
        go_simp
        try with_reducible rfl
      simp only [Act.put, List.setIfInBounds_toArray, List.set_cons_succ, List.set_cons_zero]
      refine' wpAnyH_take (i := 2) ?h1x2gjx0 ?hsx2gjx0 ?hfx2gjx0 ?hrx2gjx0 ?hQx2gjx0 (Or.inl ⟨?hwx2gjx0, ?hyx2gjx0⟩) hS ?restx2gjx0
      case h1x2gjx0 => (simp only [List.getElem?_toArray, List.getElem?_cons_succ, List.getElem?_cons_zero]; rfl)
      case hsx2gjx0 | hfx2gjx0 | hrx2gjx0 => kernel_rfl
      case hQx2gjx0 => exact fun _ _ _ h => h
      case hwx2gjx0 => rfl
      case hyx2gjx0 =>
        intro W hW
        go_simp
        try with_reducible rfl
      simp only [Act.put, List.setIfInBounds_toArray, List.set_cons_succ, List.set_cons_zero]
      refine' wpAnyH_take (i := 4) ?h1x4gjx0 ?hsx4gjx0 ?hfx4gjx0 ?hrx4gjx0 ?hQx4gjx0 (Or.inl ⟨?hwx4gjx0, ?hyx4gjx0⟩) hS ?restx4gjx0
      case h1x4gjx0 => (simp only [List.getElem?_toArray, List.getElem?_cons_succ, List.getElem?_cons_zero]; rfl)
      case hsx4gjx0 | hfx4gjx0 | hrx4gjx0 => kernel_rfl
      case hQx4gjx0 => exact fun _ _ _ h => h
      case hwx4gjx0 => rfl
      case hyx4gjx0 =>
        intro W hW
        go_simp
        try with_reducible rfl
      simp only [Act.put, List.setIfInBounds_toArray, List.set_cons_succ, List.set_cons_zero]
      refine' wpAnyH_take (i := 3) ?h1x3gjx0 ?hsx3gjx0 ?hfx3gjx0 ?hrx3gjx0 ?hQx3gjx0 (Or.inl ⟨?hwx3gjx0, ?hyx3gjx0⟩) hS ?restx3gjx0
      case h1x3gjx0 => (simp only [List.getElem?_toArray, List.getElem?_cons_succ, List.getElem?_cons_zero]; rfl)
      case hsx3gjx0 | hfx3gjx0 | hrx3gjx0 => kernel_rfl
      case hQx3gjx0 => exact fun _ _ _ h => h
      case hwx3gjx0 => rfl
      case hyx3gjx0 =>
        intro W hW
        have k3 := (SV.out W _ ((hW.block _ (blk_lt GV.out)).trans GV.out)).str
        go_simp
        try with_reducible rfl
      simp only [Act.put, List.setIfInBounds_toArray, List.set_cons_succ, List.set_cons_zero]
      refine' wpAnyH_take (i := 5) ?h1x5gjx0 ?hsx5gjx0 ?hfx5gjx0 ?hrx5gjx0 ?hQx5gjx0 (Or.inl ⟨?hwx5gjx0, ?hyx5gjx0⟩) hS ?restx5gjx0
      case h1x5gjx0 => (simp only [List.getElem?_toArray, List.getElem?_cons_succ, List.getElem?_cons_zero]; rfl)
      case hsx5gjx0 | hfx5gjx0 | hrx5gjx0 => kernel_rfl
      case hQx5gjx0 => exact fun _ _ _ h => h
      case hwx5gjx0 => rfl
      case hyx5gjx0 =>
        intro W hW
        have k4 := (SQ.out.below hW).str
        go_simp
        try with_reducible rfl
      simp only [Act.put, List.setIfInBounds_toArray, List.set_cons_succ, List.set_cons_zero]
      refine' wpAnyH_take (i := 6) ?h1x6gjx0 ?hsx6gjx0 ?hfx6gjx0 ?hrx6gjx0 ?hQx6gjx0 (Or.inl ⟨?hwx6gjx0, ?hyx6gjx0⟩) hS ?restx6gjx0
      case h1x6gjx0 => (simp only [List.getElem?_toArray, List.getElem?_cons_succ, List.getElem?_cons_zero]; rfl)
      case hsx6gjx0 | hfx6gjx0 | hrx6gjx0 => kernel_rfl
      case hQx6gjx0 => exact fun _ _ _ h => h
      case hwx6gjx0 => rfl
      case hyx6gjx0 =>
        intro W hW
        go_simp
        try with_reducible rfl
      simp only [Act.put, List.setIfInBounds_toArray, List.set_cons_succ, List.set_cons_zero]
      refine' wpAnyH_take (i := 7) ?h1x7gjx0 ?hsx7gjx0 ?hfx7gjx0 ?hrx7gjx0 ?hQx7gjx0 (Or.inl ⟨?hwx7gjx0, ?hyx7gjx0⟩) hS ?restx7gjx0
      case h1x7gjx0 => (simp only [List.getElem?_toArray, List.getElem?_cons_succ, List.getElem?_cons_zero]; rfl)
      case hsx7gjx0 | hfx7gjx0 | hrx7gjx0 => kernel_rfl
      case hQx7gjx0 => exact fun _ _ _ h => h
      case hwx7gjx0 => rfl
      case hyx7gjx0 =>
        intro W hW
        go_simp
        try with_reducible rfl
      simp only [Act.put, List.setIfInBounds_toArray, List.set_cons_succ, List.set_cons_zero]
      refine' wpAnyH_take (i := 8) ?h1x8gjx0 ?hsx8gjx0 ?hfx8gjx0 ?hrx8gjx0 ?hQx8gjx0 (Or.inl ⟨?hwx8gjx0, ?hyx8gjx0⟩) hS ?restx8gjx0
      case h1x8gjx0 => (simp only [List.getElem?_toArray, List.getElem?_cons_succ, List.getElem?_cons_zero]; rfl)
      case hsx8gjx0 | hfx8gjx0 | hrx8gjx0 => kernel_rfl
      case hQx8gjx0 => exact fun _ _ _ h => h
      case hwx8gjx0 => rfl
      case hyx8gjx0 =>
        intro W hW
        go_simp
        try with_reducible rfl
      simp only [Act.put, List.setIfInBounds_toArray, List.set_cons_succ, List.set_cons_zero]
      refine' wpAnyH_take (i := 9) ?h1x9gjx0 ?hsx9gjx0 ?hfx9gjx0 ?hrx9gjx0 ?hQx9gjx0 (Or.inl ⟨?hwx9gjx0, ?hyx9gjx0⟩) hS ?restx9gjx0
      case h1x9gjx0 => (simp only [List.getElem?_toArray, List.getElem?_cons_succ, List.getElem?_cons_zero]; rfl)
      case hsx9gjx0 | hfx9gjx0 | hrx9gjx0 => kernel_rfl
      case hQx9gjx0 => exact fun _ _ _ h => h
      case hwx9gjx0 => rfl
      case hyx9gjx0 =>
        intro W hW
        go_simp
        try with_reducible rfl
      simp only [Act.put, List.setIfInBounds_toArray, List.set_cons_succ, List.set_cons_zero]
      refine' wpAnyH_take (i := 10) ?h1x10gjx0 ?hsx10gjx0 ?hfx10gjx0 ?hrx10gjx0 ?hQx10gjx0 (Or.inl ⟨?hwx10gjx0, ?hyx10gjx0⟩) hS ?restx10gjx0
      case h1x10gjx0 => (simp only [List.getElem?_toArray, List.getElem?_cons_succ, List.getElem?_cons_zero]; rfl)
      case hsx10gjx0 | hfx10gjx0 | hrx10gjx0 => kernel_rfl
      case hQx10gjx0 => exact fun _ _ _ h => h
      case hwx10gjx0 => rfl
      case hyx10gjx0 =>
        intro W hW
        go_simp
        try with_reducible rfl
      simp only [Act.put, List.setIfInBounds_toArray, List.set_cons_succ, List.set_cons_zero]
      refine' wpAnyH_take (i := 11) ?h1x11gjx0 ?hsx11gjx0 ?hfx11gjx0 ?hrx11gjx0 ?hQx11gjx0 (Or.inl ⟨?hwx11gjx0, ?hyx11gjx0⟩) hS ?restx11gjx0
      case h1x11gjx0 => (simp only [List.getElem?_toArray, List.getElem?_cons_succ, List.getElem?_cons_zero]; rfl)
      case hsx11gjx0 | hfx11gjx0 | hrx11gjx0 => kernel_rfl
      case hQx11gjx0 => exact fun _ _ _ h => h
      case hwx11gjx0 => rfl
      case hyx11gjx0 =>
        intro W hW
        go_simp
        try with_reducible rfl
      simp only [Act.put, List.setIfInBounds_toArray, List.set_cons_succ, List.set_cons_zero]
      refine' wpAnyH_take (i := 12) ?h1x12gjx0 ?hsx12gjx0 ?hfx12gjx0 ?hrx12gjx0 ?hQx12gjx0 (Or.inl ⟨?hwx12gjx0, ?hyx12gjx0⟩) hS ?restx12gjx0
      case h1x12gjx0 => (simp only [List.getElem?_toArray, List.getElem?_cons_succ, List.getElem?_cons_zero]; rfl)
      case hsx12gjx0 | hfx12gjx0 | hrx12gjx0 => kernel_rfl
      case hQx12gjx0 => exact fun _ _ _ h => h
      case hwx12gjx0 => rfl
      case hyx12gjx0 =>
        intro W hW
        go_simp
        try with_reducible rfl
      simp only [Act.put, List.setIfInBounds_toArray, List.set_cons_succ, List.set_cons_zero]
      refine' wpAnyH_take (i := 13) ?h1x13gjx0 ?hsx13gjx0 ?hfx13gjx0 ?hrx13gjx0 ?hQx13gjx0 (Or.inl ⟨?hwx13gjx0, ?hyx13gjx0⟩) hS ?restx13gjx0
      case h1x13gjx0 => (simp only [List.getElem?_toArray, List.getElem?_cons_succ, List.getElem?_cons_zero]; rfl)
      case hsx13gjx0 | hfx13gjx0 | hrx13gjx0 => kernel_rfl
      case hQx13gjx0 => exact fun _ _ _ h => h
      case hwx13gjx0 => rfl
      case hyx13gjx0 =>
        intro W hW
        go_simp
        try with_reducible rfl
      simp only [Act.put, List.setIfInBounds_toArray, List.set_cons_succ, List.set_cons_zero]
      refine' wpAnyH_take (i := 14) ?h1x14gjx0 ?hsx14gjx0 ?hfx14gjx0 ?hrx14gjx0 ?hQx14gjx0 (Or.inl ⟨?hwx14gjx0, ?hyx14gjx0⟩) hS ?restx14gjx0
      case h1x14gjx0 => (simp only [List.getElem?_toArray, List.getElem?_cons_succ, List.getElem?_cons_zero]; rfl)
      case hsx14gjx0 | hfx14gjx0 | hrx14gjx0 => kernel_rfl
      case hQx14gjx0 => exact fun _ _ _ h => h
      case hwx14gjx0 => rfl
      case hyx14gjx0 =>
        intro W hW
        go_simp
        try with_reducible rfl
      simp only [Act.put, List.setIfInBounds_toArray, List.set_cons_succ, List.set_cons_zero]
      refine' wpAnyH_take (i := 16) ?h1x16gjx0 ?hsx16gjx0 ?hfx16gjx0 ?hrx16gjx0 ?hQx16gjx0 (Or.inl ⟨?hwx16gjx0, ?hyx16gjx0⟩) hS ?restx16gjx0
      case h1x16gjx0 => (simp only [List.getElem?_toArray, List.getElem?_cons_succ, List.getElem?_cons_zero]; rfl)
      case hsx16gjx0 | hfx16gjx0 | hrx16gjx0 => kernel_rfl
      case hQx16gjx0 => exact fun _ _ _ h => h
      case hwx16gjx0 => rfl
      case hyx16gjx0 =>
        intro W hW
        go_simp
        try with_reducible rfl
      simp only [Act.put, List.setIfInBounds_toArray, List.set_cons_succ, List.set_cons_zero]
      refine' wpAnyH_take (i := 17) ?h1x17gjx0 ?hsx17gjx0 ?hfx17gjx0 ?hrx17gjx0 ?hQx17gjx0 (Or.inl ⟨?hwx17gjx0, ?hyx17gjx0⟩) hS ?restx17gjx0
      case h1x17gjx0 => (simp only [List.getElem?_toArray, List.getElem?_cons_succ, List.getElem?_cons_zero]; rfl)
      case hsx17gjx0 | hfx17gjx0 | hrx17gjx0 => kernel_rfl
      case hQx17gjx0 => exact fun _ _ _ h => h
      case hwx17gjx0 => rfl
      case hyx17gjx0 =>
        intro W hW
        go_simp
        try with_reducible rfl
      simp only [Act.put, List.setIfInBounds_toArray, List.set_cons_succ, List.set_cons_zero]
      refine' wpAnyH_take (i := 15) ?h1x15gjx0 ?hsx15gjx0 ?hfx15gjx0 ?hrx15gjx0 ?hQx15gjx0 (Or.inl ⟨?hwx15gjx0, ?hyx15gjx0⟩) hS ?restx15gjx0
      case h1x15gjx0 => (simp only [List.getElem?_toArray, List.getElem?_cons_succ, List.getElem?_cons_zero]; rfl)
      case hsx15gjx0 | hfx15gjx0 | hrx15gjx0 => kernel_rfl
      case hQx15gjx0 => exact fun _ _ _ h => h
      case hwx15gjx0 => rfl
      case hyx15gjx0 =>
        intro W hW
        have k5 := (S1.out W _ ((hW.block _ (blk_lt F1.out)).trans F1.out)).str
        go_simp
        try with_reducible rfl
      simp only [Act.put, List.setIfInBounds_toArray, List.set_cons_succ, List.set_cons_zero]
      refine wpAnyH_ready (rs := [18]) (by kernel_rfl) (by simp) ?_
      refine' (AllReadyH.cons ?hoc18gjx0 (fun K hK => ?stc18gjx0) AllReadyH.nil)
      case hoc18gjx0 => (simp only [List.getElem?_toArray, List.getElem?_cons_succ, List.getElem?_cons_zero]; rfl)
      go_simp
      refine (D1.out Wgjx0 _ ((hS.block _ (blk_lt G1.out)).trans G1.out)).mono ?_
      rintro e Wgjx0x18 ⟨q7, c7, rfl, hs, hb⟩
      have SD := Lib.hid hs
      clear hs
      go_wp2_with fail
      refine hK.out _ _ (hS.trans (hb.mono hS.size)) (fun hHeld => ?_)
      clear hK K
      try simp only [Act.put, List.setIfInBounds_toArray, List.set_cons_succ, List.set_cons_zero]
      clear hS
      have hS := hHeld
      clear hHeld
      clear hb
      refine wpAnyH_ready (rs := [19]) (by kernel_rfl) (by simp) ?_
      refine' (AllReadyH.cons ?hoc19gjx0x18 (fun K hK => ?stc19gjx0x18) AllReadyH.nil)
      case hoc19gjx0x18 => (simp only [List.getElem?_toArray, List.getElem?_cons_succ, List.getElem?_cons_zero]; rfl)
      have k6 := SD.out.str
      go_simp
      refine hK.out _ _ hS (fun hHeld => ?_)
      clear hK K
      try simp only [Act.put, List.setIfInBounds_toArray, List.set_cons_succ, List.set_cons_zero]
      clear hS
      have hS := hHeld
      clear hHeld
      refine' wpAnyH_take (i := 20) ?h1x20gjx0x18x19 ?hsx20gjx0x18x19 ?hfx20gjx0x18x19 ?hrx20gjx0x18x19 ?hQx20gjx0x18x19 (Or.inl ⟨?hwx20gjx0x18x19, ?hyx20gjx0x18x19⟩) hS ?restx20gjx0x18x19
      case h1x20gjx0x18x19 => (simp only [List.getElem?_toArray, List.getElem?_cons_succ, List.getElem?_cons_zero]; rfl)
      case hsx20gjx0x18x19 | hfx20gjx0x18x19 | hrx20gjx0x18x19 => kernel_rfl
      case hQx20gjx0x18x19 => exact fun _ _ _ h => h
      case hwx20gjx0x18x19 => rfl
      case hyx20gjx0x18x19 =>
        intro W hW
        go_simp
        try with_reducible rfl
      simp only [Act.put, List.setIfInBounds_toArray, List.set_cons_succ, List.set_cons_zero]
      refine' wpAnyH_take (i := 21) ?h1x21gjx0x18x19 ?hsx21gjx0x18x19 ?hfx21gjx0x18x19 ?hrx21gjx0x18x19 ?hQx21gjx0x18x19 (Or.inl ⟨?hwx21gjx0x18x19, ?hyx21gjx0x18x19⟩) hS ?restx21gjx0x18x19
      case h1x21gjx0x18x19 => (simp only [List.getElem?_toArray, List.getElem?_cons_succ, List.getElem?_cons_zero]; rfl)
      case hsx21gjx0x18x19 | hfx21gjx0x18x19 | hrx21gjx0x18x19 => kernel_rfl
      case hQx21gjx0x18x19 => exact fun _ _ _ h => h
      case hwx21gjx0x18x19 => rfl
      case hyx21gjx0x18x19 =>
        intro W hW
        go_simp
        try with_reducible rfl
      simp only [Act.put, List.setIfInBounds_toArray, List.set_cons_succ, List.set_cons_zero]
      refine' wpAnyH_take (i := 22) ?h1x22gjx0x18x19 ?hsx22gjx0x18x19 ?hfx22gjx0x18x19 ?hrx22gjx0x18x19 ?hQx22gjx0x18x19 (Or.inl ⟨?hwx22gjx0x18x19, ?hyx22gjx0x18x19⟩) hS ?restx22gjx0x18x19
      case h1x22gjx0x18x19 => (simp only [List.getElem?_toArray, List.getElem?_cons_succ, List.getElem?_cons_zero]; rfl)
      case hsx22gjx0x18x19 | hfx22gjx0x18x19 | hrx22gjx0x18x19 => kernel_rfl
      case hQx22gjx0x18x19 => exact fun _ _ _ h => h
      case hwx22gjx0x18x19 => rfl
      case hyx22gjx0x18x19 =>
        intro W hW
        go_simp
        try with_reducible rfl
      simp only [Act.put, List.setIfInBounds_toArray, List.set_cons_succ, List.set_cons_zero]
      refine' wpAnyH_take (i := 23) ?h1x23gjx0x18x19 ?hsx23gjx0x18x19 ?hfx23gjx0x18x19 ?hrx23gjx0x18x19 ?hQx23gjx0x18x19 (Or.inl ⟨?hwx23gjx0x18x19, ?hyx23gjx0x18x19⟩) hS ?restx23gjx0x18x19
      case h1x23gjx0x18x19 => (simp only [List.getElem?_toArray, List.getElem?_cons_succ, List.getElem?_cons_zero]; rfl)
      case hsx23gjx0x18x19 | hfx23gjx0x18x19 | hrx23gjx0x18x19 => kernel_rfl
      case hQx23gjx0x18x19 => exact fun _ _ _ h => h
      case hwx23gjx0x18x19 => rfl
      case hyx23gjx0x18x19 =>
        intro W hW
        go_simp
        try with_reducible rfl
      simp only [Act.put, List.setIfInBounds_toArray, List.set_cons_succ, List.set_cons_zero]
      refine' wpAnyH_take (i := 25) ?h1x25gjx0x18x19 ?hsx25gjx0x18x19 ?hfx25gjx0x18x19 ?hrx25gjx0x18x19 ?hQx25gjx0x18x19 (Or.inl ⟨?hwx25gjx0x18x19, ?hyx25gjx0x18x19⟩) hS ?restx25gjx0x18x19
      case h1x25gjx0x18x19 => (simp only [List.getElem?_toArray, List.getElem?_cons_succ, List.getElem?_cons_zero]; rfl)
      case hsx25gjx0x18x19 | hfx25gjx0x18x19 | hrx25gjx0x18x19 => kernel_rfl
      case hQx25gjx0x18x19 => exact fun _ _ _ h => h
      case hwx25gjx0x18x19 => rfl
      case hyx25gjx0x18x19 =>
        intro W hW
        go_simp
        try with_reducible rfl
      simp only [Act.put, List.setIfInBounds_toArray, List.set_cons_succ, List.set_cons_zero]
      refine' wpAnyH_take (i := 26) ?h1x26gjx0x18x19 ?hsx26gjx0x18x19 ?hfx26gjx0x18x19 ?hrx26gjx0x18x19 ?hQx26gjx0x18x19 (Or.inl ⟨?hwx26gjx0x18x19, ?hyx26gjx0x18x19⟩) hS ?restx26gjx0x18x19
      case h1x26gjx0x18x19 => (simp only [List.getElem?_toArray, List.getElem?_cons_succ, List.getElem?_cons_zero]; rfl)
      case hsx26gjx0x18x19 | hfx26gjx0x18x19 | hrx26gjx0x18x19 => kernel_rfl
      case hQx26gjx0x18x19 => exact fun _ _ _ h => h
      case hwx26gjx0x18x19 => rfl
      case hyx26gjx0x18x19 =>
        intro W hW
        go_simp
        try with_reducible rfl
      simp only [Act.put, List.setIfInBounds_toArray, List.set_cons_succ, List.set_cons_zero]
      refine' wpAnyH_take (i := 24) ?h1x24gjx0x18x19 ?hsx24gjx0x18x19 ?hfx24gjx0x18x19 ?hrx24gjx0x18x19 ?hQx24gjx0x18x19 (Or.inl ⟨?hwx24gjx0x18x19, ?hyx24gjx0x18x19⟩) hS ?restx24gjx0x18x19
      case h1x24gjx0x18x19 => (simp only [List.getElem?_toArray, List.getElem?_cons_succ, List.getElem?_cons_zero]; rfl)
      case hsx24gjx0x18x19 | hfx24gjx0x18x19 | hrx24gjx0x18x19 => kernel_rfl
      case hQx24gjx0x18x19 => exact fun _ _ _ h => h
      case hwx24gjx0x18x19 => rfl
      case hyx24gjx0x18x19 =>
        intro W hW
        have k7 := (S2.out W _ ((hW.block _ (blk_lt F2.out)).trans F2.out)).str
        go_simp
        try with_reducible rfl
      simp only [Act.put, List.setIfInBounds_toArray, List.set_cons_succ, List.set_cons_zero]
      refine wpAnyH_ready (rs := [27]) (by kernel_rfl) (by simp) ?_
      refine' (AllReadyH.cons ?hoc27gjx0x18x19 (fun K hK => ?stc27gjx0x18x19) AllReadyH.nil)
      case hoc27gjx0x18x19 => (simp only [List.getElem?_toArray, List.getElem?_cons_succ, List.getElem?_cons_zero]; rfl)
      go_simp
      refine (D2.out Wgjx0x18 _ ((hS.block _ (blk_lt G1.out)).trans G1.out)).mono ?_
      rintro e Wgjx0x18x19x27 ⟨q8, c8, rfl, hs, hb⟩
      have SD := Lib.hid (SD.out.below hb)
      have SE := Lib.hid hs
      clear hs
      go_wp2_with fail
      refine hK.out _ _ (hS.trans (hb.mono hS.size)) (fun hHeld => ?_)
      clear hK K
      try simp only [Act.put, List.setIfInBounds_toArray, List.set_cons_succ, List.set_cons_zero]
      clear hS
      have hS := hHeld
      clear hHeld
      clear hb
      refine wpAnyH_ready (rs := [28]) (by kernel_rfl) (by simp) ?_
      refine' (AllReadyH.cons ?hoc28gjx0x18x19x27 (fun K hK => ?stc28gjx0x18x19x27) AllReadyH.nil)
      case hoc28gjx0x18x19x27 => (simp only [List.getElem?_toArray, List.getElem?_cons_succ, List.getElem?_cons_zero]; rfl)
      have k8 := SE.out.str
      go_simp
      refine hK.out _ _ hS (fun hHeld => ?_)
      clear hK K
      try simp only [Act.put, List.setIfInBounds_toArray, List.set_cons_succ, List.set_cons_zero]
      clear hS
      have hS := hHeld
      clear hHeld
      refine' wpAnyH_take (i := 29) ?h1x29gjx0x18x19x27x28 ?hsx29gjx0x18x19x27x28 ?hfx29gjx0x18x19x27x28 ?hrx29gjx0x18x19x27x28 ?hQx29gjx0x18x19x27x28 (Or.inl ⟨?hwx29gjx0x18x19x27x28, ?hyx29gjx0x18x19x27x28⟩) hS ?restx29gjx0x18x19x27x28
      case h1x29gjx0x18x19x27x28 => (simp only [List.getElem?_toArray, List.getElem?_cons_succ, List.getElem?_cons_zero]; rfl)
      case hsx29gjx0x18x19x27x28 | hfx29gjx0x18x19x27x28 | hrx29gjx0x18x19x27x28 => kernel_rfl
      case hQx29gjx0x18x19x27x28 => exact fun _ _ _ h => h
      case hwx29gjx0x18x19x27x28 => rfl
      case hyx29gjx0x18x19x27x28 =>
        intro W hW
        go_simp
        try with_reducible rfl
      simp only [Act.put, List.setIfInBounds_toArray, List.set_cons_succ, List.set_cons_zero]
      refine' wpAnyH_take (i := 30) ?h1x30gjx0x18x19x27x28 ?hsx30gjx0x18x19x27x28 ?hfx30gjx0x18x19x27x28 ?hrx30gjx0x18x19x27x28 ?hQx30gjx0x18x19x27x28 (Or.inl ⟨?hwx30gjx0x18x19x27x28, ?hyx30gjx0x18x19x27x28⟩) hS ?restx30gjx0x18x19x27x28
      case h1x30gjx0x18x19x27x28 => (simp only [List.getElem?_toArray, List.getElem?_cons_succ, List.getElem?_cons_zero]; rfl)
      case hsx30gjx0x18x19x27x28 | hfx30gjx0x18x19x27x28 | hrx30gjx0x18x19x27x28 => kernel_rfl
      case hQx30gjx0x18x19x27x28 => exact fun _ _ _ h => h
      case hwx30gjx0x18x19x27x28 => rfl
      case hyx30gjx0x18x19x27x28 =>
        intro W hW
        go_simp
        try with_reducible rfl
      simp only [Act.put, List.setIfInBounds_toArray, List.set_cons_succ, List.set_cons_zero]
      refine' wpAnyH_take (i := 31) ?h1x31gjx0x18x19x27x28 ?hsx31gjx0x18x19x27x28 ?hfx31gjx0x18x19x27x28 ?hrx31gjx0x18x19x27x28 ?hQx31gjx0x18x19x27x28 (Or.inl ⟨?hwx31gjx0x18x19x27x28, ?hyx31gjx0x18x19x27x28⟩) hS ?restx31gjx0x18x19x27x28
      case h1x31gjx0x18x19x27x28 => (simp only [List.getElem?_toArray, List.getElem?_cons_succ, List.getElem?_cons_zero]; rfl)
      case hsx31gjx0x18x19x27x28 | hfx31gjx0x18x19x27x28 | hrx31gjx0x18x19x27x28 => kernel_rfl
      case hQx31gjx0x18x19x27x28 => exact fun _ _ _ h => h
      case hwx31gjx0x18x19x27x28 => rfl
      case hyx31gjx0x18x19x27x28 =>
        intro W hW
        go_simp
        try with_reducible rfl
      simp only [Act.put, List.setIfInBounds_toArray, List.set_cons_succ, List.set_cons_zero]
      refine wpAnyH_done (by kernel_rfl) ?_ _
      have BZ := Lib.hid (B6.out.trans (hS.mono B6.out.size))
      clear hS
      go_wp2_with fail
      go_ret
      exact ⟨rfl, BZ.out⟩
    case stc10fx3x4x9 =>
      have k2 := SR.out.str
      go_simp
      refine hK.out _ _ hS (fun hHeld => ?_)
      clear hK K
      try simp only [Act.put, List.setIfInBounds_toArray, List.set_cons_succ, List.set_cons_zero]
      clear hS
      have hS := hHeld
      clear hHeld
      refine wpAnyH_ready (rs := [5]) (by kernel_rfl) (by simp) ?_
      refine' (AllReadyH.cons ?hoc5fx3x4x9x10 (fun K hK => ?stc5fx3x4x9x10) AllReadyH.nil)
      case hoc5fx3x4x9x10 => (simp only [List.getElem?_toArray, List.getElem?_cons_succ, List.getElem?_cons_zero]; rfl)
      have k1 := SM.out.str
      go_simp
      refine hK.out _ _ hS (fun hHeld => ?_)
      clear hK K
      try simp only [Act.put, List.setIfInBounds_toArray, List.set_cons_succ, List.set_cons_zero]
      clear hS
      have hS := hHeld
      clear hHeld
      refine' wpAnyH_take (i := 11) ?h1x11fx3x4x9x10x5 ?hsx11fx3x4x9x10x5 ?hfx11fx3x4x9x10x5 ?hrx11fx3x4x9x10x5 ?hQx11fx3x4x9x10x5 (Or.inl ⟨?hwx11fx3x4x9x10x5, ?hyx11fx3x4x9x10x5⟩) hS ?restx11fx3x4x9x10x5
      case h1x11fx3x4x9x10x5 => (simp only [List.getElem?_toArray, List.getElem?_cons_succ, List.getElem?_cons_zero]; rfl)
      case hsx11fx3x4x9x10x5 | hfx11fx3x4x9x10x5 | hrx11fx3x4x9x10x5 => kernel_rfl
      case hQx11fx3x4x9x10x5 => exact fun _ _ _ h => h
      case hwx11fx3x4x9x10x5 => rfl
      case hyx11fx3x4x9x10x5 =>
        intro W hW
        go_simp
        try with_reducible rfl
      simp only [Act.put, List.setIfInBounds_toArray, List.set_cons_succ, List.set_cons_zero]
      refine wpAnyH_done (by kernel_rfl) ?_ _
      have B6 := Lib.hid (B5.out.trans (hS.mono B5.out.size))
      have G1 := Lib.hid ((hS.block _ (blk_lt G1.out)).trans G1.out)
      have GV := Lib.hid ((hS.block _ (blk_lt GV.out)).trans GV.out)
      have F1 := Lib.hid ((hS.block _ (blk_lt F1.out)).trans F1.out)
      have F2 := Lib.hid ((hS.block _ (blk_lt F2.out)).trans F2.out)
      have SQ := Lib.hid (SQ.out.below hS)
      have GG := Lib.hid (GG.out.below hS GG.out.lt)
      clear hS G0 G2 MK ASM RM B5
      go_wp2_with fail
      clear e1
      have e2 := EV.out
      have e3 := EE.out
      have e4 := E1.out
      have e5 := E2.out
      refine wp_region_held_drew (S := fun W => Below Wfx3x4x9.heap.size Wfx3x4x9 W) (by kernel_rfl) ((Below.refl _ _).drew) (fun hS => ?_)
      have hb0 : Below Wfx3x4x9.heap.size Wfx3x4x9 Wfx3x4x9.drew := (Below.refl _ _).drew
      clear hb0 
      generalize Wfx3x4x9.drew = Wgks at hS  ⊢
      refine wpAnyH_ready (rs := [0]) (by kernel_rfl) (by simp) ?_
      refine' (AllReadyH.cons ?hoc0gk (fun K hK => ?stc0gk) AllReadyH.nil)
      case hoc0gk => (simp only [List.getElem?_toArray, List.getElem?_cons_zero]; rfl)
      go_simp
      refine (AL.out Wgks (GG.out.below hS GG.out.lt)).mono ?_
      rintro e Wgkx0 ⟨rfl, hb⟩
      go_wp2_with fail
      refine hK.out _ _ (hS.trans (hb.mono hS.size)) (fun hHeld => ?_)
      clear hK K
      try simp only [Act.put, List.setIfInBounds_toArray, List.set_cons_succ, List.set_cons_zero]
      clear hS
      have hS := hHeld
      clear hHeld
      clear hb
      refine' wpAnyH_take (i := 1) ?h1x1gkx0 ?hsx1gkx0 ?hfx1gkx0 ?hrx1gkx0 ?hQx1gkx0 (Or.inl ⟨?hwx1gkx0, ?hyx1gkx0⟩) hS ?restx1gkx0
      case h1x1gkx0 => (simp only [List.getElem?_toArray, List.getElem?_cons_succ, List.getElem?_cons_zero]; rfl)
      case hsx1gkx0 | hfx1gkx0 | hrx1gkx0 => kernel_rfl
      case hQx1gkx0 => exact fun _ _ _ h => h
      case hwx1gkx0 => rfl
      case hyx1gkx0 =>
        intro W hW
        go_simp
        try with_reducible rfl
      simp only [Act.put, List.setIfInBounds_toArray, List.set_cons_succ, List.set_cons_zero]
      refine' wpAnyH_take (i := 2) ?h1x2gkx0 ?hsx2gkx0 ?hfx2gkx0 ?hrx2gkx0 ?hQx2gkx0 (Or.inl ⟨?hwx2gkx0, ?hyx2gkx0⟩) hS ?restx2gkx0
      case h1x2gkx0 => (simp only [List.getElem?_toArray, List.getElem?_cons_succ, List.getElem?_cons_zero]; rfl)
      case hsx2gkx0 | hfx2gkx0 | hrx2gkx0 => kernel_rfl
      case hQx2gkx0 => exact fun _ _ _ h => h
      case hwx2gkx0 => rfl
      case hyx2gkx0 =>
        intro W hW
        go_simp
        try with_reducible rfl
      simp only [Act.put, List.setIfInBounds_toArray, List.set_cons_succ, List.set_cons_zero]
      refine' wpAnyH_take (i := 4) ?h1x4gkx0 ?hsx4gkx0 ?hfx4gkx0 ?hrx4gkx0 ?hQx4gkx0 (Or.inl ⟨?hwx4gkx0, ?hyx4gkx0⟩) hS ?restx4gkx0
      case h1x4gkx0 => (simp only [List.getElem?_toArray, List.getElem?_cons_succ, List.getElem?_cons_zero]; rfl)
      case hsx4gkx0 | hfx4gkx0 | hrx4gkx0 => kernel_rfl
      case hQx4gkx0 => exact fun _ _ _ h => h
      case hwx4gkx0 => rfl
      case hyx4gkx0 =>
        intro W hW
        go_simp
        try with_reducible rfl
      simp only [Act.put, List.setIfInBounds_toArray, List.set_cons_succ, List.set_cons_zero]
      refine' wpAnyH_take (i := 3) ?h1x3gkx0 ?hsx3gkx0 ?hfx3gkx0 ?hrx3gkx0 ?hQx3gkx0 (Or.inl ⟨?hwx3gkx0, ?hyx3gkx0⟩) hS ?restx3gkx0
      case h1x3gkx0 => (simp only [List.getElem?_toArray, List.getElem?_cons_succ, List.getElem?_cons_zero]; rfl)
      case hsx3gkx0 | hfx3gkx0 | hrx3gkx0 => kernel_rfl
      case hQx3gkx0 => exact fun _ _ _ h => h
      case hwx3gkx0 => rfl
      case hyx3gkx0 =>
        intro W hW
        have k3 := (SV.out W _ ((hW.block _ (blk_lt GV.out)).trans GV.out)).str
        go_simp
        try with_reducible rfl
      simp only [Act.put, List.setIfInBounds_toArray, List.set_cons_succ, List.set_cons_zero]
      refine' wpAnyH_take (i := 5) ?h1x5gkx0 ?hsx5gkx0 ?hfx5gkx0 ?hrx5gkx0 ?hQx5gkx0 (Or.inl ⟨?hwx5gkx0, ?hyx5gkx0⟩) hS ?restx5gkx0
      case h1x5gkx0 => (simp only [List.getElem?_toArray, List.getElem?_cons_succ, List.getElem?_cons_zero]; rfl)
      case hsx5gkx0 | hfx5gkx0 | hrx5gkx0 => kernel_rfl
      case hQx5gkx0 => exact fun _ _ _ h => h
      case hwx5gkx0 => rfl
      case hyx5gkx0 =>
        intro W hW
        have k4 := (SQ.out.below hW).str
        go_simp
        try with_reducible rfl
      simp only [Act.put, List.setIfInBounds_toArray, List.set_cons_succ, List.set_cons_zero]
      refine' wpAnyH_take (i := 6) ?h1x6gkx0 ?hsx6gkx0 ?hfx6gkx0 ?hrx6gkx0 ?hQx6gkx0 (Or.inl ⟨?hwx6gkx0, ?hyx6gkx0⟩) hS ?restx6gkx0
      case h1x6gkx0 => (simp only [List.getElem?_toArray, List.getElem?_cons_succ, List.getElem?_cons_zero]; rfl)
      case hsx6gkx0 | hfx6gkx0 | hrx6gkx0 => kernel_rfl
      case hQx6gkx0 => exact fun _ _ _ h => h
      case hwx6gkx0 => rfl
      case hyx6gkx0 =>
        intro W hW
        go_simp
        try with_reducible rfl
      simp only [Act.put, List.setIfInBounds_toArray, List.set_cons_succ, List.set_cons_zero]
      refine' wpAnyH_take (i := 7) ?h1x7gkx0 ?hsx7gkx0 ?hfx7gkx0 ?hrx7gkx0 ?hQx7gkx0 (Or.inl ⟨?hwx7gkx0, ?hyx7gkx0⟩) hS ?restx7gkx0
      case h1x7gkx0 => (simp only [List.getElem?_toArray, List.getElem?_cons_succ, List.getElem?_cons_zero]; rfl)
      case hsx7gkx0 | hfx7gkx0 | hrx7gkx0 => kernel_rfl
      case hQx7gkx0 => exact fun _ _ _ h => h
      case hwx7gkx0 => rfl
      case hyx7gkx0 =>
        intro W hW
        go_simp
        try with_reducible rfl
      simp only [Act.put, List.setIfInBounds_toArray, List.set_cons_succ, List.set_cons_zero]
      refine' wpAnyH_take (i := 8) ?h1x8gkx0 ?hsx8gkx0 ?hfx8gkx0 ?hrx8gkx0 ?hQx8gkx0 (Or.inl ⟨?hwx8gkx0, ?hyx8gkx0⟩) hS ?restx8gkx0
      case h1x8gkx0 => (simp only [List.getElem?_toArray, List.getElem?_cons_succ, List.getElem?_cons_zero]; rfl)
      case hsx8gkx0 | hfx8gkx0 | hrx8gkx0 => kernel_rfl
      case hQx8gkx0 => exact fun _ _ _ h => h
      case hwx8gkx0 => rfl
      case hyx8gkx0 =>
        intro W hW
        go_simp
        try with_reducible rfl
      simp only [Act.put, List.setIfInBounds_toArray, List.set_cons_succ, List.set_cons_zero]
      refine' wpAnyH_take (i := 9) ?h1x9gkx0 ?hsx9gkx0 ?hfx9gkx0 ?hrx9gkx0 ?hQx9gkx0 (Or.inl ⟨?hwx9gkx0, ?hyx9gkx0⟩) hS ?restx9gkx0
      case h1x9gkx0 => (simp only [List.getElem?_toArray, List.getElem?_cons_succ, List.getElem?_cons_zero]; rfl)
      case hsx9gkx0 | hfx9gkx0 | hrx9gkx0 => kernel_rfl
      case hQx9gkx0 => exact fun _ _ _ h => h
      case hwx9gkx0 => rfl
      case hyx9gkx0 =>
        intro W hW
        go_simp
        try with_reducible rfl
      simp only [Act.put, List.setIfInBounds_toArray, List.set_cons_succ, List.set_cons_zero]
      refine' wpAnyH_take (i := 10) ?h1x10gkx0 ?hsx10gkx0 ?hfx10gkx0 ?hrx10gkx0 ?hQx10gkx0 (Or.inl ⟨?hwx10gkx0, ?hyx10gkx0⟩) hS ?restx10gkx0
      case h1x10gkx0 => (simp only [List.getElem?_toArray, List.getElem?_cons_succ, List.getElem?_cons_zero]; rfl)
      case hsx10gkx0 | hfx10gkx0 | hrx10gkx0 => kernel_rfl
      case hQx10gkx0 => exact fun _ _ _ h => h
      case hwx10gkx0 => rfl
      case hyx10gkx0 =>
        intro W hW
        go_simp
        try with_reducible rfl
      simp only [Act.put, List.setIfInBounds_toArray, List.set_cons_succ, List.set_cons_zero]
      refine' wpAnyH_take (i := 11) ?h1x11gkx0 ?hsx11gkx0 ?hfx11gkx0 ?hrx11gkx0 ?hQx11gkx0 (Or.inl ⟨?hwx11gkx0, ?hyx11gkx0⟩) hS ?restx11gkx0
      case h1x11gkx0 => (simp only [List.getElem?_toArray, List.getElem?_cons_succ, List.getElem?_cons_zero]; rfl)
      case hsx11gkx0 | hfx11gkx0 | hrx11gkx0 => kernel_rfl
      case hQx11gkx0 => exact fun _ _ _ h => h
      case hwx11gkx0 => rfl
      case hyx11gkx0 =>
        intro W hW
        go_simp
        try with_reducible rfl
      simp only [Act.put, List.setIfInBounds_toArray, List.set_cons_succ, List.set_cons_zero]
      refine' wpAnyH_take (i := 12) ?h1x12gkx0 ?hsx12gkx0 ?hfx12gkx0 ?hrx12gkx0 ?hQx12gkx0 (Or.inl ⟨?hwx12gkx0, ?hyx12gkx0⟩) hS ?restx12gkx0
      case h1x12gkx0 => (simp only [List.getElem?_toArray, List.getElem?_cons_succ, List.getElem?_cons_zero]; rfl)
      case hsx12gkx0 | hfx12gkx0 | hrx12gkx0 => kernel_rfl
      case hQx12gkx0 => exact fun _ _ _ h => h
      case hwx12gkx0 => rfl
      case hyx12gkx0 =>
        intro W hW
        go_simp
        try with_reducible rfl
      simp only [Act.put, List.setIfInBounds_toArray, List.set_cons_succ, List.set_cons_zero]
      refine' wpAnyH_take (i := 13) ?h1x13gkx0 ?hsx13gkx0 ?hfx13gkx0 ?hrx13gkx0 ?hQx13gkx0 (Or.inl ⟨?hwx13gkx0, ?hyx13gkx0⟩) hS ?restx13gkx0
      case h1x13gkx0 => (simp only [List.getElem?_toArray, List.getElem?_cons_succ, List.getElem?_cons_zero]; rfl)
      case hsx13gkx0 | hfx13gkx0 | hrx13gkx0 => kernel_rfl
      case hQx13gkx0 => exact fun _ _ _ h => h
      case hwx13gkx0 => rfl
      case hyx13gkx0 =>
        intro W hW
        go_simp
        try with_reducible rfl
      simp only [Act.put, List.setIfInBounds_toArray, List.set_cons_succ, List.set_cons_zero]
      refine' wpAnyH_take (i := 14) ?h1x14gkx0 ?hsx14gkx0 ?hfx14gkx0 ?hrx14gkx0 ?hQx14gkx0 (Or.inl ⟨?hwx14gkx0, ?hyx14gkx0⟩) hS ?restx14gkx0
      case h1x14gkx0 => (simp only [List.getElem?_toArray, List.getElem?_cons_succ, List.getElem?_cons_zero]; rfl)
      case hsx14gkx0 | hfx14gkx0 | hrx14gkx0 => kernel_rfl
      case hQx14gkx0 => exact fun _ _ _ h => h
      case hwx14gkx0 => rfl
      case hyx14gkx0 =>
        intro W hW
        go_simp
        try with_reducible rfl
      simp only [Act.put, List.setIfInBounds_toArray, List.set_cons_succ, List.set_cons_zero]
      refine' wpAnyH_take (i := 16) ?h1x16gkx0 ?hsx16gkx0 ?hfx16gkx0 ?hrx16gkx0 ?hQx16gkx0 (Or.inl ⟨?hwx16gkx0, ?hyx16gkx0⟩) hS ?restx16gkx0
      case h1x16gkx0 => (simp only [List.getElem?_toArray, List.getElem?_cons_succ, List.getElem?_cons_zero]; rfl)
      case hsx16gkx0 | hfx16gkx0 | hrx16gkx0 => kernel_rfl
      case hQx16gkx0 => exact fun _ _ _ h => h
      case hwx16gkx0 => rfl
      case hyx16gkx0 =>
        intro W hW
        go_simp
        try with_reducible rfl
      simp only [Act.put, List.setIfInBounds_toArray, List.set_cons_succ, List.set_cons_zero]
      refine' wpAnyH_take (i := 17) ?h1x17gkx0 ?hsx17gkx0 ?hfx17gkx0 ?hrx17gkx0 ?hQx17gkx0 (Or.inl ⟨?hwx17gkx0, ?hyx17gkx0⟩) hS ?restx17gkx0
      case h1x17gkx0 => (simp only [List.getElem?_toArray, List.getElem?_cons_succ, List.getElem?_cons_zero]; rfl)
      case hsx17gkx0 | hfx17gkx0 | hrx17gkx0 => kernel_rfl
      case hQx17gkx0 => exact fun _ _ _ h => h
      case hwx17gkx0 => rfl
      case hyx17gkx0 =>
        intro W hW
        go_simp
        try with_reducible rfl
      simp only [Act.put, List.setIfInBounds_toArray, List.set_cons_succ, List.set_cons_zero]
      refine' wpAnyH_take (i := 15) ?h1x15gkx0 ?hsx15gkx0 ?hfx15gkx0 ?hrx15gkx0 ?hQx15gkx0 (Or.inl ⟨?hwx15gkx0, ?hyx15gkx0⟩) hS ?restx15gkx0
      case h1x15gkx0 => (simp only [List.getElem?_toArray, List.getElem?_cons_succ, List.getElem?_cons_zero]; rfl)
      case hsx15gkx0 | hfx15gkx0 | hrx15gkx0 => kernel_rfl
      case hQx15gkx0 => exact fun _ _ _ h => h
      case hwx15gkx0 => rfl
      case hyx15gkx0 =>
        intro W hW
        have k5 := (S1.out W _ ((hW.block _ (blk_lt F1.out)).trans F1.out)).str
        go_simp
        try with_reducible rfl
      simp only [Act.put, List.setIfInBounds_toArray, List.set_cons_succ, List.set_cons_zero]
      refine wpAnyH_ready (rs := [18]) (by kernel_rfl) (by simp) ?_
      refine' (AllReadyH.cons ?hoc18gkx0 (fun K hK => ?stc18gkx0) AllReadyH.nil)
      case hoc18gkx0 => (simp only [List.getElem?_toArray, List.getElem?_cons_succ, List.getElem?_cons_zero]; rfl)
      go_simp
      refine (D1.out Wgkx0 _ ((hS.block _ (blk_lt G1.out)).trans G1.out)).mono ?_
      rintro e Wgkx0x18 ⟨q7, c7, rfl, hs, hb⟩
      have SD := Lib.hid hs
      clear hs
      go_wp2_with fail
      refine hK.out _ _ (hS.trans (hb.mono hS.size)) (fun hHeld => ?_)
      clear hK K
      try simp only [Act.put, List.setIfInBounds_toArray, List.set_cons_succ, List.set_cons_zero]
      clear hS
      have hS := hHeld
      clear hHeld
      clear hb
      refine wpAnyH_ready (rs := [19]) (by kernel_rfl) (by simp) ?_
      refine' (AllReadyH.cons ?hoc19gkx0x18 (fun K hK => ?stc19gkx0x18) AllReadyH.nil)
      case hoc19gkx0x18 => (simp only [List.getElem?_toArray, List.getElem?_cons_succ, List.getElem?_cons_zero]; rfl)
      have k6 := SD.out.str
      go_simp
      refine hK.out _ _ hS (fun hHeld => ?_)
      clear hK K
      try simp only [Act.put, List.setIfInBounds_toArray, List.set_cons_succ, List.set_cons_zero]
      clear hS
      have hS := hHeld
      clear hHeld
      refine' wpAnyH_take (i := 20) ?h1x20gkx0x18x19 ?hsx20gkx0x18x19 ?hfx20gkx0x18x19 ?hrx20gkx0x18x19 ?hQx20gkx0x18x19 (Or.inl ⟨?hwx20gkx0x18x19, ?hyx20gkx0x18x19⟩) hS ?restx20gkx0x18x19
      case h1x20gkx0x18x19 => (simp only [List.getElem?_toArray, List.getElem?_cons_succ, List.getElem?_cons_zero]; rfl)
      case hsx20gkx0x18x19 | hfx20gkx0x18x19 | hrx20gkx0x18x19 => kernel_rfl
      case hQx20gkx0x18x19 => exact fun _ _ _ h => h
      case hwx20gkx0x18x19 => rfl
      case hyx20gkx0x18x19 =>
        intro W hW
        go_simp
        try with_reducible rfl
      simp only [Act.put, List.setIfInBounds_toArray, List.set_cons_succ, List.set_cons_zero]
      refine' wpAnyH_take (i := 21) ?h1x21gkx0x18x19 ?hsx21gkx0x18x19 ?hfx21gkx0x18x19 ?hrx21gkx0x18x19 ?hQx21gkx0x18x19 (Or.inl ⟨?hwx21gkx0x18x19, ?hyx21gkx0x18x19⟩) hS ?restx21gkx0x18x19
      case h1x21gkx0x18x19 => (simp only [List.getElem?_toArray, List.getElem?_cons_succ, List.getElem?_cons_zero]; rfl)
      case hsx21gkx0x18x19 | hfx21gkx0x18x19 | hrx21gkx0x18x19 => kernel_rfl
      case hQx21gkx0x18x19 => exact fun _ _ _ h => h
      case hwx21gkx0x18x19 => rfl
      case hyx21gkx0x18x19 =>
        intro W hW
        go_simp
        try with_reducible rfl
      simp only [Act.put, List.setIfInBounds_toArray, List.set_cons_succ, List.set_cons_zero]
      refine' wpAnyH_take (i := 22) ?h1x22gkx0x18x19 ?hsx22gkx0x18x19 ?hfx22gkx0x18x19 ?hrx22gkx0x18x19 ?hQx22gkx0x18x19 (Or.inl ⟨?hwx22gkx0x18x19, ?hyx22gkx0x18x19⟩) hS ?restx22gkx0x18x19
      case h1x22gkx0x18x19 => (simp only [List.getElem?_toArray, List.getElem?_cons_succ, List.getElem?_cons_zero]; rfl)
      case hsx22gkx0x18x19 | hfx22gkx0x18x19 | hrx22gkx0x18x19 => kernel_rfl
      case hQx22gkx0x18x19 => exact fun _ _ _ h => h
      case hwx22gkx0x18x19 => rfl
      case hyx22gkx0x18x19 =>
        intro W hW
        go_simp
        try with_reducible rfl
      simp only [Act.put, List.setIfInBounds_toArray, List.set_cons_succ, List.set_cons_zero]
      refine' wpAnyH_take (i := 23) ?h1x23gkx0x18x19 ?hsx23gkx0x18x19 ?hfx23gkx0x18x19 ?hrx23gkx0x18x19 ?hQx23gkx0x18x19 (Or.inl ⟨?hwx23gkx0x18x19, ?hyx23gkx0x18x19⟩) hS ?restx23gkx0x18x19
      case h1x23gkx0x18x19 => (simp only [List.getElem?_toArray, List.getElem?_cons_succ, List.getElem?_cons_zero]; rfl)
      case hsx23gkx0x18x19 | hfx23gkx0x18x19 | hrx23gkx0x18x19 => kernel_rfl
      case hQx23gkx0x18x19 => exact fun _ _ _ h => h
      case hwx23gkx0x18x19 => rfl
      case hyx23gkx0x18x19 =>
        intro W hW
        go_simp
        try with_reducible rfl
      simp only [Act.put, List.setIfInBounds_toArray, List.set_cons_succ, List.set_cons_zero]
      refine' wpAnyH_take (i := 25) ?h1x25gkx0x18x19 ?hsx25gkx0x18x19 ?hfx25gkx0x18x19 ?hrx25gkx0x18x19 ?hQx25gkx0x18x19 (Or.inl ⟨?hwx25gkx0x18x19, ?hyx25gkx0x18x19⟩) hS ?restx25gkx0x18x19
      case h1x25gkx0x18x19 => (simp only [List.getElem?_toArray, List.getElem?_cons_succ, List.getElem?_cons_zero]; rfl)
      case hsx25gkx0x18x19 | hfx25gkx0x18x19 | hrx25gkx0x18x19 => kernel_rfl
      case hQx25gkx0x18x19 => exact fun _ _ _ h => h
      case hwx25gkx0x18x19 => rfl
      case hyx25gkx0x18x19 =>
        intro W hW
        go_simp
        try with_reducible rfl
      simp only [Act.put, List.setIfInBounds_toArray, List.set_cons_succ, List.set_cons_zero]
      refine' wpAnyH_take (i := 26) ?h1x26gkx0x18x19 ?hsx26gkx0x18x19 ?hfx26gkx0x18x19 ?hrx26gkx0x18x19 ?hQx26gkx0x18x19 (Or.inl ⟨?hwx26gkx0x18x19, ?hyx26gkx0x18x19⟩) hS ?restx26gkx0x18x19
      case h1x26gkx0x18x19 => (simp only [List.getElem?_toArray, List.getElem?_cons_succ, List.getElem?_cons_zero]; rfl)
      case hsx26gkx0x18x19 | hfx26gkx0x18x19 | hrx26gkx0x18x19 => kernel_rfl
      case hQx26gkx0x18x19 => exact fun _ _ _ h => h
      case hwx26gkx0x18x19 => rfl
      case hyx26gkx0x18x19 =>
        intro W hW
        go_simp
        try with_reducible rfl
      simp only [Act.put, List.setIfInBounds_toArray, List.set_cons_succ, List.set_cons_zero]
      refine' wpAnyH_take (i := 24) ?h1x24gkx0x18x19 ?hsx24gkx0x18x19 ?hfx24gkx0x18x19 ?hrx24gkx0x18x19 ?hQx24gkx0x18x19 (Or.inl ⟨?hwx24gkx0x18x19, ?hyx24gkx0x18x19⟩) hS ?restx24gkx0x18x19
      case h1x24gkx0x18x19 => (simp only [List.getElem?_toArray, List.getElem?_cons_succ, List.getElem?_cons_zero]; rfl)
      case hsx24gkx0x18x19 | hfx24gkx0x18x19 | hrx24gkx0x18x19 => kernel_rfl
      case hQx24gkx0x18x19 => exact fun _ _ _ h => h
      case hwx24gkx0x18x19 => rfl
      case hyx24gkx0x18x19 =>
        intro W hW
        have k7 := (S2.out W _ ((hW.block _ (blk_lt F2.out)).trans F2.out)).str
        go_simp
        try with_reducible rfl
      simp only [Act.put, List.setIfInBounds_toArray, List.set_cons_succ, List.set_cons_zero]
      refine wpAnyH_ready (rs := [27]) (by kernel_rfl) (by simp) ?_
      refine' (AllReadyH.cons ?hoc27gkx0x18x19 (fun K hK => ?stc27gkx0x18x19) AllReadyH.nil)
      case hoc27gkx0x18x19 => (simp only [List.getElem?_toArray, List.getElem?_cons_succ, List.getElem?_cons_zero]; rfl)
      go_simp
      refine (D2.out Wgkx0x18 _ ((hS.block _ (blk_lt G1.out)).trans G1.out)).mono ?_
      rintro e Wgkx0x18x19x27 ⟨q8, c8, rfl, hs, hb⟩
      have SD := Lib.hid (SD.out.below hb)
      have SE := Lib.hid hs
      clear hs
      go_wp2_with fail
      refine hK.out _ _ (hS.trans (hb.mono hS.size)) (fun hHeld => ?_)
      clear hK K
      try simp only [Act.put, List.setIfInBounds_toArray, List.set_cons_succ, List.set_cons_zero]
      clear hS
      have hS := hHeld
      clear hHeld
      clear hb
      refine wpAnyH_ready (rs := [28]) (by kernel_rfl) (by simp) ?_
      refine' (AllReadyH.cons ?hoc28gkx0x18x19x27 (fun K hK => ?stc28gkx0x18x19x27) AllReadyH.nil)
      case hoc28gkx0x18x19x27 => (simp only [List.getElem?_toArray, List.getElem?_cons_succ, List.getElem?_cons_zero]; rfl)
      have k8 := SE.out.str
      go_simp
      refine hK.out _ _ hS (fun hHeld => ?_)
      clear hK K
      try simp only [Act.put, List.setIfInBounds_toArray, List.set_cons_succ, List.set_cons_zero]
      clear hS
      have hS := hHeld
      clear hHeld
      refine' wpAnyH_take (i := 29) ?h1x29gkx0x18x19x27x28 ?hsx29gkx0x18x19x27x28 ?hfx29gkx0x18x19x27x28 ?hrx29gkx0x18x19x27x28 ?hQx29gkx0x18x19x27x28 (Or.inl ⟨?hwx29gkx0x18x19x27x28, ?hyx29gkx0x18x19x27x28⟩) hS ?restx29gkx0x18x19x27x28
      case h1x29gkx0x18x19x27x28 => (simp only [List.getElem?_toArray, List.getElem?_cons_succ, List.getElem?_cons_zero]; rfl)
      case hsx29gkx0x18x19x27x28 | hfx29gkx0x18x19x27x28 | hrx29gkx0x18x19x27x28 => kernel_rfl
      case hQx29gkx0x18x19x27x28 => exact fun _ _ _ h => h
      case hwx29gkx0x18x19x27x28 => rfl
      case hyx29gkx0x18x19x27x28 =>
        intro W hW
        go_simp
        try with_reducible rfl
      simp only [Act.put, List.setIfInBounds_toArray, List.set_cons_succ, List.set_cons_zero]
      refine' wpAnyH_take (i := 30) ?h1x30gkx0x18x19x27x28 ?hsx30gkx0x18x19x27x28 ?hfx30gkx0x18x19x27x28 ?hrx30gkx0x18x19x27x28 ?hQx30gkx0x18x19x27x28 (Or.inl ⟨?hwx30gkx0x18x19x27x28, ?hyx30gkx0x18x19x27x28⟩) hS ?restx30gkx0x18x19x27x28
      case h1x30gkx0x18x19x27x28 => (simp only [List.getElem?_toArray, List.getElem?_cons_succ, List.getElem?_cons_zero]; rfl)
      case hsx30gkx0x18x19x27x28 | hfx30gkx0x18x19x27x28 | hrx30gkx0x18x19x27x28 => kernel_rfl
      case hQx30gkx0x18x19x27x28 => exact fun _ _ _ h => h
      case hwx30gkx0x18x19x27x28 => rfl
      case hyx30gkx0x18x19x27x28 =>
        intro W hW
        go_simp
        try with_reducible rfl
      simp only [Act.put, List.setIfInBounds_toArray, List.set_cons_succ, List.set_cons_zero]
      refine' wpAnyH_take (i := 31) ?h1x31gkx0x18x19x27x28 ?hsx31gkx0x18x19x27x28 ?hfx31gkx0x18x19x27x28 ?hrx31gkx0x18x19x27x28 ?hQx31gkx0x18x19x27x28 (Or.inl ⟨?hwx31gkx0x18x19x27x28, ?hyx31gkx0x18x19x27x28⟩) hS ?restx31gkx0x18x19x27x28
      case h1x31gkx0x18x19x27x28 => (simp only [List.getElem?_toArray, List.getElem?_cons_succ, List.getElem?_cons_zero]; rfl)
      case hsx31gkx0x18x19x27x28 | hfx31gkx0x18x19x27x28 | hrx31gkx0x18x19x27x28 => kernel_rfl
      case hQx31gkx0x18x19x27x28 => exact fun _ _ _ h => h
      case hwx31gkx0x18x19x27x28 => rfl
      case hyx31gkx0x18x19x27x28 =>
        intro W hW
        go_simp
        try with_reducible rfl
      simp only [Act.put, List.setIfInBounds_toArray, List.set_cons_succ, List.set_cons_zero]
      refine wpAnyH_done (by kernel_rfl) ?_ _
      have BZ := Lib.hid (B6.out.trans (hS.mono B6.out.size))
      clear hS
      go_wp2_with fail
      go_ret
      exact ⟨rfl, BZ.out⟩
def numOf : Value → Int
  | .int _ z => z
  | _ => 0
theorem trod_bytes {H : Type} {enc : TypeId × Value → H} {w : World} {base : Nat} {t : TypeId} {n fuel : Nat} {cs : List Value} {x : DataW H × List MemPlace} (ht : Tryz.prog.underlying t = some (.array n 5)) (hn : Tryz.prog.cellsOf t = n)
    (h : DataW.trod enc Tryz.prog w base (fun _ => true) true fuel t cs = some x) : ∃ ys : List Nat, ae.Bts n ys ∧ cs = (ncells ys).toList := by
  obtain ⟨xs, m, _, _, hl, hxl, hel⟩ := DataW.trod_array ht h
  rw [ae.cellsOf5] at hel
  rw [hn] at hl
  have hc : ∀ i (hi : i < cs.length), ∃ z : Int, (0 ≤ z ∧ z ≤ 255) ∧ cs[i] = .int .u8 z := fun i hi => by
    have h := hel i (by omega)
    have hx : xs[i]? = some xs[i] := List.getElem?_eq_getElem (by omega)
    rw [hx] at h
    obtain ⟨z, hz, _, hw⟩ := DataW.trod_int Tryz.underlying5 h
    refine ⟨z, bounds_u8 hw, ?_⟩
    rw [Nat.mul_one, List.drop_eq_getElem_cons hi, List.take_succ_cons, List.take_zero] at hz
    exact (List.cons.inj hz).1
  refine ⟨cs.map fun v => (numOf v).toNat, ⟨by simp [hl], fun y hy => ?_⟩, ?_⟩
  · obtain ⟨v, hv, rfl⟩ := List.mem_map.1 hy
    obtain ⟨i, hi, rfl⟩ := List.getElem_of_mem hv
    obtain ⟨z, hz, e⟩ := hc i hi
    rw [e]
    simp only [numOf]
    omega
  · apply List.ext_getElem
    · simp [ncells]
    · intro i h1 h2
      obtain ⟨z, hz, e⟩ := hc i h1
      simp [ncells, e, numOf]
      omega
theorem fields_cons {l : List Field} {b : Bool} {ty off : Nat} {r : List (Bool × Nat × Nat)} (h : l.map (fun f => (decide (f.name ≠ "_"), f.type, f.offset)) = (b, ty, off) :: r) :
    ∃ f fs, l = f :: fs ∧ f.type = ty ∧ f.offset = off ∧ fs.map (fun f => (decide (f.name ≠ "_"), f.type, f.offset)) = r := by
  cases l with
  | nil => simp at h
  | cons f fs =>
    simp only [List.map_cons, List.cons.injEq, Prod.mk.injEq] at h
    exact ⟨f, fs, rfl, h.1.2.1, h.1.2.2, h.2⟩
theorem cells22 : Tryz.prog.cellsOf 22 = 32 := by kernel_rfl
theorem cells24 : Tryz.prog.cellsOf 24 = 40 := by kernel_rfl
theorem cells26 : Tryz.prog.cellsOf 26 = 104 := by kernel_rfl
theorem st26 : Tryz.prog.underlying 26 = some (.struct (Tryz.prog.fieldsOf 26)) := by kernel_rfl
set_option maxRecDepth 100000 in
theorem open_slot {H : Type} {enc : TypeId × Value → H} {w : World} {r : Reach} {b0 base : Nat} {v : Value} {d : DataW H} {ps : List MemPlace}
    (hval : Value.okWide Tryz.prog w r b0 26 v) (hd : DataW.Trod enc Tryz.prog w base (fun _ => true) true 26 v d ps) : ∃ A B C : List Nat, (ae.Bts 32 A ∧ ae.Bts 32 B ∧ ae.Bts 40 C) ∧ v = .agg (ncells (A ++ B ++ C)) := by
  obtain ⟨cs, rfl, hsz⟩ := okWide_struct st26 hval
  rw [cells26] at hsz
  obtain ⟨fuel, hf⟩ := hd
  obtain ⟨xs, m, _, _, hl, hxl, hfi⟩ := DataW.trod_struct st26 hf
  have hff : (Tryz.prog.fieldsOf 26).toList.map (fun f => (decide (f.name ≠ "_"), f.type, f.offset)) = [(true, 22, 0), (true, 22, 32), (true, 24, 64)] := by kernel_rfl
  obtain ⟨f1, r1, e1, b1, c1, g1⟩ := fields_cons hff
  obtain ⟨f2, r2, e2, b2, c2, g2⟩ := fields_cons g1
  obtain ⟨f3, r3, e3, b3, c3, g3⟩ := fields_cons g2
  have hsz3 : xs.length = 3 := by
    rw [hxl, ← Array.length_toList]
    have := congrArg List.length hff
    simpa using this
  have h0 := hfi 0 f1 (by rw [← Array.getElem?_toList, e1]; rfl)
  have h1 := hfi 1 f2 (by rw [← Array.getElem?_toList, e1, e2]; rfl)
  have h2 := hfi 2 f3 (by rw [← Array.getElem?_toList, e1, e2, e3]; rfl)
  rw [b1, c1, cells22, List.getElem?_eq_getElem (by omega)] at h0
  rw [b2, c2, cells22, List.getElem?_eq_getElem (by omega)] at h1
  rw [b3, c3, cells24, List.getElem?_eq_getElem (by omega)] at h2
  obtain ⟨y0, by0, ey0⟩ := trod_bytes (by kernel_rfl) cells22 h0
  obtain ⟨y1, by1, ey1⟩ := trod_bytes (by kernel_rfl) cells22 h1
  obtain ⟨y2, by2, ey2⟩ := trod_bytes (by kernel_rfl) cells24 h2
  refine ⟨y0, y1, y2, ⟨by0, by1, by2⟩, ?_⟩
  congr 1
  apply Array.ext'
  have en : (ncells (y0 ++ y1 ++ y2)).toList = (ncells y0).toList ++ (ncells y1).toList ++ (ncells y2).toList := by simp [ncells]
  rw [en, ← ey0, ← ey1, ← ey2]
  have hcl : cs.toList.length = 104 := by simpa using hsz
  show cs.toList = ((cs.toList.drop 0).take 32 ++ (cs.toList.drop 32).take 32) ++ (cs.toList.drop 64).take 40
  have e1 : cs.toList.drop 32 = (cs.toList.drop 32).take 32 ++ cs.toList.drop 64 := by
    have := (List.take_append_drop 32 (cs.toList.drop 32)).symm
    rwa [List.drop_drop] at this
  have e2 : (cs.toList.drop 64).take 40 = cs.toList.drop 64 := List.take_of_length_le (by rw [List.length_drop, hcl]; omega)
  rw [e2, List.append_assoc, ← e1, List.drop_zero, List.take_append_drop]

set_option maxRecDepth 100000 in
theorem lifted (os : Os) (started : os.Started) (H : Type) (enc : TypeId × Value → H) :
    ReturnsInHanded {} Tryz.checked os 3 .any (fun w args => (Rows.keysSlotsSpec.pre enc Tryz.prog Tryz.f3 [] false w args ∧ laidMetH Tryz.prog sh.laid2 w) ∧ sizedMet enc Tryz.prog Tryz.f3 (OpenSpec.ofChange Rows.keysSlotsSpec) false w args)
      (Rows.keysSlotsSpec.post enc Tryz.prog Tryz.f3 false true false false) := by
  refine returnsInHanded_of_change_and (C := Tryz.checked) (X := fun w _ => laidMetH Tryz.prog sh.laid2 w) (fun _ _ _ hh h => h.of_heap hh) sh.own started (by kernel_rfl) Tryz.func3
    (ChangeSpec.witness_shaped (enc := enc) (C := Tryz.checked) (os := os) (X := fun w _ => laidMetH Tryz.prog sh.laid2 w) false (World.doorLaid Tryz.prog 400 os) #[.agg (Array.replicate 32 (.int .u8 0)), .agg (Array.replicate 32 (.int .u8 0)), .agg (Array.replicate 32 (.int .u8 0)), .agg (Array.replicate 104 (.int .u8 0)), .int .u64 0] 8 rfl (World.shaped_of_RefB (by kernel_rfl) (by kernel_rfl)) (by kernel_rfl) (by kernel_rfl) (by kernel_rfl) (sh.door_met os _)) ?_
  intro W base args ds gs before hval0 hW _ _ hL _
  have hval : ∀ (j : Nat) t v, Tryz.f3.params[j]? = some t → args[j]? = some v → Value.okWide Tryz.prog W .any base t v := hval0
  have hW' := hW
  obtain ⟨p, q, hA0, hV, rfl, hfz, hnd⟩ := hW
  have hA : DataW.TrodAll enc Tryz.prog W 0 (fun _ => true) true Tryz.f3.params.toList args.toList ds p := hA0
  rw [Tryz.params3] at hA hval
  obtain ⟨v0, vs0, d0, ds0, p0, q0, hargs, rfl, rfl, h0, r0⟩ := trodAll_cons hA
  obtain ⟨v1, vs1, d1, ds1, p1, q1, rfl, rfl, rfl, h1, r1⟩ := trodAll_cons r0
  obtain ⟨v2, vs2, d2, ds2, p2, q2, rfl, rfl, rfl, h2, r2⟩ := trodAll_cons r1
  obtain ⟨v3, vs3, d3, ds3, p3, q3, rfl, rfl, rfl, h3, r3⟩ := trodAll_cons r2
  obtain ⟨v4, vs4, d4, ds4, p4, q4, rfl, rfl, rfl, h4, r4⟩ := trodAll_cons r3
  obtain ⟨rfl, rfl, rfl⟩ := trodAll_nil r4
  obtain rfl : args = #[v0, v1, v2, v3, v4] := by cases args; simp_all
  obtain ⟨rfl, rfl⟩ := trodVars_none hV
  obtain ⟨x0, s0, rfl⟩ := ae.open_arr (n := 32) (by kernel_rfl) (by kernel_rfl) (hval 0 23 v0 rfl rfl) h0
  obtain ⟨x1, s1, rfl⟩ := ae.open_arr (n := 32) (by kernel_rfl) (by kernel_rfl) (hval 1 23 v1 rfl rfl) h1
  obtain ⟨x2, s2, rfl⟩ := ae.open_arr (n := 32) (by kernel_rfl) (by kernel_rfl) (hval 2 22 v2 rfl rfl) h2
  obtain ⟨A3, B3, C3, s3, rfl⟩ := open_slot (hval 3 26 v3 rfl rfl) h3
  obtain ⟨a4, rfl, rfl, rfl, w4⟩ := open_int Tryz.underlying27 (hval 4 27 v4 rfl rfl) h4
  have b4 := bounds_u64 w4
  obtain ⟨n4, rfl⟩ : ∃ n : Nat, a4 = n := ⟨a4.toNat, by omega⟩
  refine (walk x0 x1 x2 A3 B3 C3 s0 s1 s2 s3.1 s3.2.1 s3.2.2 n4 (by omega) W (sh.of_laid hL)).mono fun e W' ⟨he, hb⟩ => ?_
  subst he
  exact ⟨_, rfl, sh.law_post hW' rfl rfl rfl (by kernel_rfl) hb⟩
/-- The row's statement. -/
theorem row_holds : Rows.KeysSlotsSaid :=
  OpenClaim.holds_of_wide 3 Tryz.f3 rfl rfl rfl rfl rfl rfl rfl ⟨rfl, rfl, rfl, rfl, rfl⟩ rfl rfl rfl rfl rfl (by kernel_rfl) Tryz.func3 (by kernel_rfl)
    (of_decide_eq_true (by kernel_rfl)) (by unfold Func.isWrapper; first | (rw [if_pos (by decide +kernel)]; kernel_rfl) | (rw [if_neg (by decide +kernel)]; exact ⟨rfl, rfl⟩))
    (fun os started H enc _ => lifted os started H enc)
/-- The tied card. -/
theorem proved : Rows.KeysSlotsCardSaid :=
  Claim7.holds_tied_plain_at .later [] [.data, .data] true (true, "f0d75910c4d11af78fbd75c8f299927e74c33bf1413acb3454240b14bf709812") false
    row_holds (fun _ h => by cases h) (by kernel_rfl) (fun _ h => by cases h) Go.Proofs.YtpkeofioobmmoaaGreatDoor.keysSlots_row_tie rfl ⟨rfl, rfl⟩ (by kernel_rfl) rfl
    (fun f fn hf hfn => by
      obtain rfl : f = 3 := Option.some.inj ((show Tryz.prog.funcNamed "casemate/casematelaw21.KeysSlots" = some 3 by kernel_rfl).symm.trans hf) |>.symm
      obtain rfl : fn = Tryz.f3 := (Option.some.inj (Tryz.func3.symm.trans hfn)).symm
      exact ⟨by kernel_rfl, fun j t ht => by
        rw [Tryz.params3] at ht
        have hm : t ∈ [23, 23, 22, 26, 27] := by simpa using Array.mem_of_getElem? ht
        have hall : ([23, 23, 22, 26, 27].all fun u => !Tryz.prog.wantsStandIn u) = true := by kernel_rfl
        exact (show Tryz.prog.wantsStandIn t = false by simpa using List.all_eq_true.1 hall t hm)⟩)
    (by kernel_rfl)
#print axioms proved
end Go.Proofs.YtpkeofioobmmoaaGreatDoor.keysSlots
