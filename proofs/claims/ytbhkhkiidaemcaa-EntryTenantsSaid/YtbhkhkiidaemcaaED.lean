/-
  Contracts of the functions that the statements of package entry go through: the values of volumes and blocks. Condition: the numbers fit their kinds.
-/
import Derived.Test.YtbhkhkiidaemcaaEC
import Derived.Deep.DeepCutAuto
namespace Go.Proofs.Ytbhkhkiidaemcaa
open Go.RowKit
/-! ### The count's function -/
set_option maxRecDepth 100000 in
set_option maxHeartbeats 4000000 in
theorem writeCountE (n : Int) (h0 : 0 ≤ n) (h1 : n ≤ 18446744073709551615) (w : World) : Calls Try.prog 39 #[.int .u64 n] w (WrP w True (cW n)) := by
  have PU := Lib.hid (fun W => writeCount n h0 h1 W)
  have HZ := z38
  have BE : Hid (Below w.heap.size w (w.alloc (.cells (bcells (zs 44)) 38))) := (Below.refl _ _).alloc (Nat.le_refl _) _
  have G0 := Lib.hid (heap_alloc_new w (.cells (bcells (zs 44)) 38))
  have IZ := Lib.hid (i38 (cW_len n))
  have SZ := Lib.hid (bcells_sz (show (zs 44).length = (cW n).length by rw [zs_len, cW_len]))
  have OC := Lib.hid (one_cells (cW n))
  have U38 := Lib.hid Try.underlying38
  clear h0 h1
  go_enter Try.func39, Try.ntmps39
  go_wp2_with fail
  refine (PU.out _).mono ?_
  rintro e w1 ⟨rfl, hb⟩
  have B1 := Lib.hid (BE.out.trans (hb.mono BE.out.size))
  have G1 := Lib.hid ((hb.block _ (blk_lt G0.out)).trans G0.out)
  clear hb BE G0
  generalize bcells (zs 44) = Z at *
  go_wp2_with (refine wpList_store_row rfl 38 (.tmp 2) (.tmp 5) rfl w.heap.size (bcells (cW n)) rfl rfl 38 Z G1.out IZ.out SZ.out OC.out ?_)
  exact bodyPost_ret (v := .tuple #[.agg (bcells (cW n)), .int .i64 0]) (results_cell_tmp Try.results39 _ _ w.heap.size 38 _ (0, 0) _ rfl (setRow_heap _ _ _ _ _ _ G1.out) U38.out rfl IZ.out) rfl (wrP_yes trivial (B1.out.trans (below_row _ _ (Nat.le_refl _))))
/-! ### Volumes -/
def vMay (b : Int) : Prop := 1 ≤ b ∧ b ≤ 256
instance (b : Int) : Decidable (vMay b) := by unfold vMay; infer_instance
def vP (n b : Int) : List (List Int) := [be 8 n, be 4 b]
def vW (n b : Int) : List Int := fv (vP n b)
theorem vW_len (n b : Int) : (vW n b).length = 44 := fv_len (by simp [vP, be_len])
theorem vW_byt (n b : Int) : Byt (vW n b) := fv_byt (by simpa [vP] using (be_byt 8 n).append (be_byt 4 b))
def vcells (n b : Int) : Array Value := #[.int .u64 n, .int .i64 b]
theorem vc0 {n b : Int} {W : World} {g : Nat} {t : TypeId} (h : W.heap[g]? = some (.cells (vcells n b) t (0, 0))) : W.cell? ⟨g, 0, none⟩ = some (.int .u64 n) := by rw [cell_of_row _ _ _ _ _ _ h]; rfl
theorem vc1 {n b : Int} {W : World} {g : Nat} {t : TypeId} (h : W.heap[g]? = some (.cells (vcells n b) t (0, 0))) : W.cell? ⟨g, 1, none⟩ = some (.int .i64 b) := by rw [cell_of_row _ _ _ _ _ _ h]; rfl
set_option maxRecDepth 100000 in
set_option maxHeartbeats 4000000 in
theorem writeVol_no (n b : Int) (hm : ¬ vMay b) (w : World) : Calls Try.prog 16 #[.agg (vcells n b)] w (WrP w (vMay b) (vW n b)) := by
  have HZ := z38
  have HB := b38
  have G0 := heap_alloc_new w (.cells (vcells n b) 30)
  have c1 := vc1 G0
  have BE : Hid (Below w.heap.size w ((w.alloc (.cells (vcells n b) 30)).alloc (.cells (bcells (zs 44)) 38))) := ((Below.refl _ _).alloc (Nat.le_refl _) _).alloc (by simp) _
  have G1 := Lib.hid (heap_alloc2_new w (.cells (vcells n b) 30) (.cells (bcells (zs 44)) 38))
  have c1' := (((Below.refl (w.alloc (.cells (vcells n b) 30)).heap.size (w.alloc (.cells (vcells n b) 30))).alloc (Nat.le_refl _) (.cells (bcells (zs 44)) 38)).cell (p := ⟨w.heap.size, 1, none⟩) (by simp)).trans c1
  have NO : Hid (∀ W', Below w.heap.size w W' → WrP w (vMay b) (vW n b) (.returned (.tuple #[.agg (bcells (zs 44)), .int .i64 3])) W') := fun W' hb => wrP_no hm hb
  have IZ := Lib.hid (i38 (zs_len 44))
  have OC := Lib.hid (one_cells (zs 44))
  have U38 := Lib.hid Try.underlying38
  have hor : b < 1 ∨ 256 < b := by unfold vMay at hm; omega
  clear G0 hm
  obtain ⟨W0, hW0⟩ : ∃ W0, W0 = (w.alloc (.cells (vcells n b) 30)).alloc (.cells (bcells (zs 44)) 38) := ⟨_, rfl⟩
  rw [← hW0] at BE G1 c1'
  have HW0 := Lib.hid hW0
  clear hW0 c1
  generalize bcells (zs 44) = Z at *
  rcases hor with h | h
  · go_enter Try.func16, Try.ntmps16
    go_upto_region 1 with (fail)
    rw [← HW0.out]
    go_wp2_with (refine wpList_store_row rfl 38 (.tmp 2) (.tmp 12) rfl (w.heap.size + 1) Z rfl rfl 38 Z G1.out IZ.out rfl OC.out ?_)
    exact bodyPost_ret (v := .tuple #[.agg Z, .int .i64 3]) (results_cell_tmp Try.results16 _ _ (w.heap.size + 1) 38 _ (0, 0) _ rfl (setRow_heap _ _ _ _ _ _ G1.out) U38.out rfl IZ.out) rfl (NO.out _ (BE.out.trans (below_row _ _ (by omega))))
  · have h1 : ¬ b < 1 := by omega
    go_enter Try.func16, Try.ntmps16
    go_upto_region 1 with (fail)
    rw [← HW0.out]
    go_wp2_with (refine wpList_store_row rfl 38 (.tmp 2) (.tmp 12) rfl (w.heap.size + 1) Z rfl rfl 38 Z G1.out IZ.out rfl OC.out ?_)
    exact bodyPost_ret (v := .tuple #[.agg Z, .int .i64 3]) (results_cell_tmp Try.results16 _ _ (w.heap.size + 1) 38 _ (0, 0) _ rfl (setRow_heap _ _ _ _ _ _ G1.out) U38.out rfl IZ.out) rfl (NO.out _ (BE.out.trans (below_row _ _ (by omega))))
set_option maxRecDepth 100000 in
set_option maxHeartbeats 8000000 in
theorem writeVol_yes (n b : Int) (h0 : 0 ≤ n) (h1 : n ≤ 18446744073709551615) (hm : vMay b) (w : World) : Calls Try.prog 16 #[.agg (vcells n b)] w (WrP w (vMay b) (vW n b)) := by
  have HZ := z38
  have BE : Hid (Below w.heap.size w ((w.alloc (.cells (vcells n b) 30)).alloc (.cells (bcells (zs 44)) 38))) := ((Below.refl _ _).alloc (Nat.le_refl _) _).alloc (by simp) _
  have G1 := Lib.hid (heap_alloc2_new w (.cells (vcells n b) 30) (.cells (bcells (zs 44)) 38))
  have G0 : Hid (((w.alloc (.cells (vcells n b) 30)).alloc (.cells (bcells (zs 44)) 38)).heap[w.heap.size]? = some (.cells (vcells n b) 30 (0, 0))) := by
    show _ = _
    rw [Below.heap_alloc _ _ _ (by simp)]; exact heap_alloc_new w _
  have c1 := vc1 G0.out
  have YES : Hid (∀ W', Below w.heap.size w W' → WrP w (vMay b) (vW n b) (.returned (.tuple #[.agg (bcells (vW n b)), .int .i64 0])) W') := fun W' hb => wrP_yes hm hb
  have PN := Lib.hid (fun W => putb64 n h0 h1 W)
  have PB := Lib.hid (fun W => putb32 b (by unfold vMay at hm; omega) (by unfold vMay at hm; omega) W)
  have hb1 : ¬ b < 1 := by unfold vMay at hm; omega
  have hb2 : ¬ 256 < b := by unfold vMay at hm; omega
  have VA : Hid (∀ (W : World) (g q r : Nat), W.heap[g]? = some (.cells #[.slice (some ⟨q, 0, none⟩) 8 8, .slice (some ⟨r, 0, none⟩) 4 4] 43 (0, 0)) → Sees W (.slice (some ⟨q, 0, none⟩) 8 8) (be 8 n) → Sees W (.slice (some ⟨r, 0, none⟩) 4 4) (be 4 b) →
      Calls Try.prog 32 #[.slice (some ⟨g, 0, none⟩) 2 2] W fun e w' => e = .returned (.agg (bcells (vW n b))) ∧ Below W.heap.size W w') := fun W g q r hg hs ht =>
    valueS W g [_, _] (vP n b) (vW n b) 2 rfl rfl (by simp [vP]) (by simp [vP, be_len]) hg ⟨hs, be_ne 7 n, ht, be_ne 3 b, trivial⟩
  have IZ := Lib.hid (i38 (vW_len n b))
  have SZ := Lib.hid (bcells_sz (show (zs 44).length = (vW n b).length by rw [zs_len, vW_len]))
  have OC := Lib.hid (one_cells (vW n b))
  have U38 := Lib.hid Try.underlying38
  have WB := Lib.hid (show IntKind.u32.wrap b = b from IntWalk.u32_in _ (by unfold vMay at hm; omega))
  obtain ⟨W0, hW0⟩ : ∃ W0, W0 = (w.alloc (.cells (vcells n b) 30)).alloc (.cells (bcells (zs 44)) 38) := ⟨_, rfl⟩
  rw [← hW0] at BE G1 G0 c1
  have HW0 := Lib.hid hW0
  clear hW0 hm h0 h1
  generalize bcells (zs 44) = Z at *
  generalize bcells (vW n b) = C at *
  go_enter Try.func16, Try.ntmps16
  go_upto_region 1 with (fail)
  rw [← HW0.out]
  go_upto_region 3 with (fail)
  refine wp_region_held_drew (S := fun W => Below w.heap.size w W ∧ W.heap[w.heap.size]? = some (.cells (vcells n b) 30 (0, 0))) (by kernel_rfl) (⟨BE.out.drew, G0.out⟩) (fun hS => ?_)
  have hb0 : Below W0.heap.size W0 W0.drew := (Below.refl _ _).drew
  have qG1 := (hb0.block _ (blk_lt G1.out)).trans G1.out
  clear hb0 G1
  generalize W0.drew = Wbs at hS qG1 ⊢
  have G1 := Lib.hid qG1
  clear qG1
  refine' wpAnyH_take (i := 0) ?h1x0b ?hsx0b ?hfx0b ?hrx0b ?hQx0b (Or.inl ⟨?hwx0b, ?hyx0b⟩) hS ?restx0b
  case h1x0b => (simp only [List.getElem?_toArray, List.getElem?_cons_zero]; rfl)
  case hsx0b => kernel_rfl
  case hfx0b => kernel_rfl
  case hrx0b => kernel_rfl
  case hQx0b => exact fun _ _ _ h => h
  case hwx0b => rfl
  case hyx0b =>
    intro W hW
    go_simp
    try with_reducible rfl
  simp only [Act.put, List.setIfInBounds_toArray, List.set_cons_succ, List.set_cons_zero]
  refine' wpAnyH_take (i := 3) ?h1x3b ?hsx3b ?hfx3b ?hrx3b ?hQx3b (Or.inl ⟨?hwx3b, ?hyx3b⟩) hS ?restx3b
  case h1x3b => (simp only [List.getElem?_toArray, List.getElem?_cons_succ, List.getElem?_cons_zero]; rfl)
  case hsx3b => kernel_rfl
  case hfx3b => kernel_rfl
  case hrx3b => kernel_rfl
  case hQx3b => exact fun _ _ _ h => h
  case hwx3b => rfl
  case hyx3b =>
    intro W hW
    go_simp
    try with_reducible rfl
  simp only [Act.put, List.setIfInBounds_toArray, List.set_cons_succ, List.set_cons_zero]
  refine' wpAnyH_take (i := 1) ?h1x1b ?hsx1b ?hfx1b ?hrx1b ?hQx1b (Or.inl ⟨?hwx1b, ?hyx1b⟩) hS ?restx1b
  case h1x1b => (simp only [List.getElem?_toArray, List.getElem?_cons_succ, List.getElem?_cons_zero]; rfl)
  case hsx1b => kernel_rfl
  case hfx1b => kernel_rfl
  case hrx1b => kernel_rfl
  case hQx1b => exact fun _ _ _ h => h
  case hwx1b => rfl
  case hyx1b =>
    intro W hW
    have dd := vc0 hW.2
    go_simp
    try with_reducible rfl
  simp only [Act.put, List.setIfInBounds_toArray, List.set_cons_succ, List.set_cons_zero]
  refine' wpAnyH_take (i := 4) ?h1x4b ?hsx4b ?hfx4b ?hrx4b ?hQx4b (Or.inl ⟨?hwx4b, ?hyx4b⟩) hS ?restx4b
  case h1x4b => (simp only [List.getElem?_toArray, List.getElem?_cons_succ, List.getElem?_cons_zero]; rfl)
  case hsx4b => kernel_rfl
  case hfx4b => kernel_rfl
  case hrx4b => kernel_rfl
  case hQx4b => exact fun _ _ _ h => h
  case hwx4b => rfl
  case hyx4b =>
    intro W hW
    have dd := vc1 hW.2
    go_simp
    try with_reducible rfl
  simp only [Act.put, List.setIfInBounds_toArray, List.set_cons_succ, List.set_cons_zero]
  refine' wpAnyH_take (i := 5) ?h1x5b ?hsx5b ?hfx5b ?hrx5b ?hQx5b (Or.inl ⟨?hwx5b, ?hyx5b⟩) hS ?restx5b
  case h1x5b => (simp only [List.getElem?_toArray, List.getElem?_cons_succ, List.getElem?_cons_zero]; rfl)
  case hsx5b => kernel_rfl
  case hfx5b => kernel_rfl
  case hrx5b => kernel_rfl
  case hQx5b => exact fun _ _ _ h => h
  case hwx5b => rfl
  case hyx5b =>
    intro W hW
    have dd := WB.out
    go_simp
    try with_reducible rfl
  simp only [Act.put, List.setIfInBounds_toArray, List.set_cons_succ, List.set_cons_zero]
  refine wpAnyH_ready (rs := [2]) (by kernel_rfl) (by simp) ?_
  refine' (AllReadyH.cons ?hoc2b (fun K hK => ?stc2b) AllReadyH.nil)
  case hoc2b => (simp only [List.getElem?_toArray, List.getElem?_cons_succ, List.getElem?_cons_zero]; rfl)
  go_simp
  refine (PN.out Wbs).mono ?_
  rintro e Wbx2 ⟨ga, rfl, hs, hb, hn⟩
  have G1 := Lib.hid ((hb.block _ (blk_lt G1.out)).trans G1.out)
  have Sa := Lib.hid hs
  clear hs hn
  go_wp2_with fail
  refine hK.out _ _ (⟨hS.1.trans (hb.mono hS.1.size), (hb.block _ (blk_lt hS.2)).trans hS.2⟩) (fun hHeld => ?_)
  clear hK K
  try simp only [Act.put, List.setIfInBounds_toArray, List.set_cons_succ, List.set_cons_zero]
  clear hS
  have hS := hHeld
  clear hHeld
  clear hb
  refine wpAnyH_ready (rs := [6]) (by kernel_rfl) (by simp) ?_
  refine' (AllReadyH.cons ?hoc6bx2 (fun K hK => ?stc6bx2) AllReadyH.nil)
  case hoc6bx2 => (simp only [List.getElem?_toArray, List.getElem?_cons_succ, List.getElem?_cons_zero]; rfl)
  go_simp
  refine (PB.out Wbx2).mono ?_
  rintro e Wbx2x6 ⟨gb, rfl, hs, hb, hn⟩
  have G1 := Lib.hid ((hb.block _ (blk_lt G1.out)).trans G1.out)
  have Sa := Lib.hid (Sa.out.below hb)
  have Sb := Lib.hid hs
  clear hs hn
  go_wp2_with fail
  refine hK.out _ _ (⟨hS.1.trans (hb.mono hS.1.size), (hb.block _ (blk_lt hS.2)).trans hS.2⟩) (fun hHeld => ?_)
  clear hK K
  try simp only [Act.put, List.setIfInBounds_toArray, List.set_cons_succ, List.set_cons_zero]
  clear hS
  have hS := hHeld
  clear hHeld
  clear hb
  refine wpAnyH_ready (rs := [7]) (by kernel_rfl) (by simp) ?_
  refine' (AllReadyH.cons ?hoc7bx2x6 (fun K hK => ?stc7bx2x6) AllReadyH.nil)
  case hoc7bx2x6 => (simp only [List.getElem?_toArray, List.getElem?_cons_succ, List.getElem?_cons_zero]; rfl)
  go_simp
  have hb := (Below.refl Wbx2x6.heap.size Wbx2x6).alloc (Nat.le_refl _) (.cells #[.slice (some ⟨ga, 0, none⟩) 8 8, .slice (some ⟨gb, 0, none⟩) 4 4] 43)
  refine hK.out _ _ (⟨hS.1.trans (hb.mono hS.1.size), (hb.block _ (blk_lt hS.2)).trans hS.2⟩) (fun hHeld => ?_)
  clear hK K
  try simp only [Act.put, List.setIfInBounds_toArray, List.set_cons_succ, List.set_cons_zero]
  have qGP := heap_alloc_new Wbx2x6 (.cells #[.slice (some ⟨ga, 0, none⟩) 8 8, .slice (some ⟨gb, 0, none⟩) 4 4] 43)
  have hgp := hS.1.size
  have qG1 := (hb.block _ (blk_lt G1.out)).trans G1.out
  have qSa := Sa.out.below hb
  have qSb := Sb.out.below hb
  clear hS
  have hS := hHeld
  clear hHeld
  clear hb
  clear G1 Sa Sb
  generalize Wbx2x6.alloc (.cells #[.slice (some ⟨ga, 0, none⟩) 8 8, .slice (some ⟨gb, 0, none⟩) 4 4] 43) = Wbx2x6x7 at *
  generalize Wbx2x6.heap.size = gp at *
  have G1 := Lib.hid qG1
  have Sa := Lib.hid qSa
  have Sb := Lib.hid qSb
  have GP := Lib.hid qGP
  clear qG1 qSa qSb qGP
  refine wpAnyH_ready (rs := [8]) (by kernel_rfl) (by simp) ?_
  refine' (AllReadyH.cons ?hoc8bx2x6x7 (fun K hK => ?stc8bx2x6x7) AllReadyH.nil)
  case hoc8bx2x6x7 => (simp only [List.getElem?_toArray, List.getElem?_cons_succ, List.getElem?_cons_zero]; rfl)
  go_simp
  refine (VA.out Wbx2x6x7 _ _ _ GP.out Sa.out Sb.out).mono ?_
  rintro e Wbx2x6x7x8 ⟨rfl, hb⟩
  have G1 := Lib.hid ((hb.block _ (blk_lt G1.out)).trans G1.out)
  have Sa := Lib.hid (Sa.out.below hb)
  have Sb := Lib.hid (Sb.out.below hb)
  have GP := Lib.hid ((hb.block _ (blk_lt GP.out)).trans GP.out)
  go_wp2_with fail
  refine hK.out _ _ (⟨hS.1.trans (hb.mono hS.1.size), (hb.block _ (blk_lt hS.2)).trans hS.2⟩) (fun hHeld => ?_)
  clear hK K
  try simp only [Act.put, List.setIfInBounds_toArray, List.set_cons_succ, List.set_cons_zero]
  clear hS
  have hS := hHeld
  clear hHeld
  clear hb
  refine wpAnyH_ready (rs := [9]) (by kernel_rfl) (by simp) ?_
  refine' (AllReadyH.cons ?hoc9bx2x6x7x8 (fun K hK => ?stc9bx2x6x7x8) AllReadyH.nil)
  case hoc9bx2x6x7x8 => (simp only [List.getElem?_toArray, List.getElem?_cons_succ, List.getElem?_cons_zero]; rfl)
  clear Sa Sb GP
  refine step_store_row rfl 38 (.tmp 2) (.tmp 21) rfl (w.heap.size + 1) C rfl rfl 38 _ G1.out IZ.out SZ.out OC.out ?_
  refine hK.out _ _ (⟨hS.1.trans (below_row _ _ (by omega)), by rw [setRow_other _ _ _ _ (show w.heap.size ≠ (w.heap.size + 1) from (by omega))]; exact hS.2⟩) (fun hHeld => ?_)
  clear hK K
  simp only [Act.put]
  have qG1 := setRow_heap _ (w.heap.size + 1) _ C _ _ G1.out
  clear hS
  have hS := hHeld
  clear hHeld
  clear G1
  generalize Wbx2x6x7x8.setRow (w.heap.size + 1) C = Wbx2x6x7x8x9 at *
  have G1 := Lib.hid qG1
  clear qG1
  refine' wpAnyH_take (i := 10) ?h1x10bx2x6x7x8x9 ?hsx10bx2x6x7x8x9 ?hfx10bx2x6x7x8x9 ?hrx10bx2x6x7x8x9 ?hQx10bx2x6x7x8x9 (Or.inl ⟨?hwx10bx2x6x7x8x9, ?hyx10bx2x6x7x8x9⟩) hS ?restx10bx2x6x7x8x9
  case h1x10bx2x6x7x8x9 => (simp only [List.getElem?_toArray, List.getElem?_cons_succ, List.getElem?_cons_zero]; rfl)
  case hsx10bx2x6x7x8x9 => kernel_rfl
  case hfx10bx2x6x7x8x9 => kernel_rfl
  case hrx10bx2x6x7x8x9 => kernel_rfl
  case hQx10bx2x6x7x8x9 => exact fun _ _ _ h => h
  case hwx10bx2x6x7x8x9 => rfl
  case hyx10bx2x6x7x8x9 =>
    intro W hW
    go_simp
    try with_reducible rfl
  simp only [Act.put, List.setIfInBounds_toArray, List.set_cons_succ, List.set_cons_zero]
  refine wpAnyH_done (by kernel_rfl) ?_ _
  go_wp2_with fail
  exact bodyPost_ret (v := .tuple #[.agg C, .int .i64 0]) (results_cell_tmp Try.results16 _ _ (w.heap.size + 1) 38 C (0, 0) _ rfl G1.out U38.out rfl IZ.out) rfl (YES.out _ hS.1)

end Go.Proofs.Ytbhkhkiidaemcaa
