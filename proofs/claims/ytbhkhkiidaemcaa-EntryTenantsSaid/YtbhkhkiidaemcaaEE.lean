/-
  Contracts of the functions that the statements of package entry go through: the values of blocks and roots. Condition: the numbers fit their kinds, the sums are 32 bytes.
-/
import Derived.Test.YtbhkhkiidaemcaaED
namespace Go.Proofs.Ytbhkhkiidaemcaa
open Go.RowKit
/-! ### Blocks -/
def kP (s : Int) (z : List Int) (t : Int) : List (List Int) := [be 4 s, z, be 8 t]
def kW (s : Int) (z : List Int) (t : Int) : List Int := fv (kP s z t)
theorem kW_len {s t : Int} {z : List Int} (h : z.length = 32) : (kW s z t).length = 44 := fv_len (by simp [kP, be_len, h])
theorem kW_byt {s t : Int} {z : List Int} (h : Byt z) : Byt (kW s z t) := fv_byt (by simpa [kP] using (be_byt 4 s).append (h.append (be_byt 8 t)))
def kcells (s : Int) (z : List Int) (t : Int) : Array Value := (rcells s z ++ [Value.int .u64 t]).toArray
theorem kc0 {s t : Int} {z : List Int} {W : World} {g : Nat} {ty : TypeId} (h : W.heap[g]? = some (.cells (kcells s z t) ty (0, 0))) : W.cell? ⟨g, 0, none⟩ = some (.int .u32 s) := by rw [cell_of_row _ _ _ _ _ _ h]; simp [kcells, rcells]
theorem kc33 {s t : Int} {z : List Int} (hl : z.length = 32) {W : World} {g : Nat} {ty : TypeId} (h : W.heap[g]? = some (.cells (kcells s z t) ty (0, 0))) : W.cell? ⟨g, 33, none⟩ = some (.int .u64 t) := by rw [cell_of_row _ _ _ _ _ _ h]; simp [kcells, rcells, hl]
theorem ksum {s t : Int} {z : List Int} (hz : Byt z) (hl : z.length = 32) {W : World} {g : Nat} {ty : TypeId} (h : W.heap[g]? = some (.cells (kcells s z t) ty (0, 0))) : Sees W (.slice (some ⟨g, 1, none⟩) 32 32) z := by
  refine ⟨hz, .inr (.inr ⟨g, 1, 32, by rw [hl], fun e => by rw [e] at hl; simp at hl, by rw [hl]; exact Nat.le_refl _, by decide, fun i hi => ?_⟩)⟩
  rw [cell_of_row _ _ _ _ _ _ h]
  simp [kcells, rcells, nth, List.getD, hi, show 1 + i = i + 1 by omega, List.getElem?_append_left (show i < (z.map (Value.int .u8)).length by simpa using hi)]
set_option maxRecDepth 100000 in
set_option maxHeartbeats 8000000 in
theorem writeBlk (s : Int) (z : List Int) (t : Int) (s0 : 0 ≤ s) (s1 : s ≤ 4294967295) (hz : Byt z) (hl : z.length = 32) (t0 : 0 ≤ t) (t1 : t ≤ 18446744073709551615) (w : World) :
    Calls Try.prog 17 #[.agg (kcells s z t)] w fun e w' => e = .returned (.agg (bcells (kW s z t))) ∧ Below w.heap.size w w' := by
  have HZ := z38
  have BE : Hid (Below w.heap.size w ((w.alloc (.cells (kcells s z t) 37)).alloc (.cells (bcells (zs 44)) 38))) := ((Below.refl _ _).alloc (Nat.le_refl _) _).alloc (by simp) _
  have G1 := Lib.hid (heap_alloc2_new w (.cells (kcells s z t) 37) (.cells (bcells (zs 44)) 38))
  have G0 : Hid (((w.alloc (.cells (kcells s z t) 37)).alloc (.cells (bcells (zs 44)) 38)).heap[w.heap.size]? = some (.cells (kcells s z t) 37 (0, 0))) := by
    show _ = _
    rw [Below.heap_alloc _ _ _ (by simp)]; exact heap_alloc_new w _
  have SM := Lib.hid (ksum hz hl G0.out)
  have PT := Lib.hid (fun W => putb64 t t0 t1 W)
  have PS := Lib.hid (fun W => putb32 s s0 s1 W)
  have VA : Hid (∀ (W : World) (g q r : Nat), W.heap[g]? = some (.cells #[.slice (some ⟨q, 0, none⟩) 4 4, .slice (some ⟨w.heap.size, 1, none⟩) 32 32, .slice (some ⟨r, 0, none⟩) 8 8] 43 (0, 0)) → Sees W (.slice (some ⟨q, 0, none⟩) 4 4) (be 4 s) →
      Sees W (.slice (some ⟨w.heap.size, 1, none⟩) 32 32) z → Sees W (.slice (some ⟨r, 0, none⟩) 8 8) (be 8 t) →
      Calls Try.prog 32 #[.slice (some ⟨g, 0, none⟩) 3 3] W fun e w' => e = .returned (.agg (bcells (kW s z t))) ∧ Below W.heap.size W w') := fun W g q r hg hs hm ht =>
    valueS W g [_, _, _] (kP s z t) (kW s z t) 3 rfl rfl (by simp [kP]) (by simp [kP, be_len, hl]) hg ⟨hs, be_ne 3 s, hm, ne_of_len hl, ht, be_ne 7 t, trivial⟩
  have IZ := Lib.hid (i38 (kW_len (s := s) (t := t) hl))
  have SZ := Lib.hid (bcells_sz (show (zs 44).length = (kW s z t).length by rw [zs_len, kW_len hl]))
  have OC := Lib.hid (one_cells (kW s z t))
  have U38 := Lib.hid Try.underlying38
  have HL := Lib.hid hl
  obtain ⟨W0, hW0⟩ : ∃ W0, W0 = (w.alloc (.cells (kcells s z t) 37)).alloc (.cells (bcells (zs 44)) 38) := ⟨_, rfl⟩
  rw [← hW0] at BE G1 G0 SM
  have HW0 := Lib.hid hW0
  have C0 : Hid (∀ W : World, W.heap[w.heap.size]? = some (.cells (kcells s z t) 37 (0, 0)) → W.cell? ⟨w.heap.size, 0, none⟩ = some (.int .u32 s)) := fun W h => kc0 h
  have C33 : Hid (∀ W : World, W.heap[w.heap.size]? = some (.cells (kcells s z t) 37 (0, 0)) → W.cell? ⟨w.heap.size, 33, none⟩ = some (.int .u64 t)) := fun W h => kc33 hl h
  clear hW0 hl t0 t1 s0 s1 hz
  generalize bcells (zs 44) = Z at *
  generalize hC : bcells (kW s z t) = C at *
  clear hC
  generalize kcells s z t = K at *
  go_enter Try.func17, Try.ntmps17
  go_upto_region 1 with (fail)
  rw [← HW0.out]
  refine wp_region_held_drew (S := fun W => Below w.heap.size w W ∧ W.heap[w.heap.size]? = some (.cells K 37 (0, 0))) (by kernel_rfl) (⟨BE.out.drew, G0.out⟩) (fun hS => ?_)
  have hb0 : Below W0.heap.size W0 W0.drew := (Below.refl _ _).drew
  have qG1 := (hb0.block _ (blk_lt G1.out)).trans G1.out
  have qSM := SM.out.below hb0
  clear hb0 G1 SM
  generalize W0.drew = Wbs at hS qG1 qSM ⊢
  have G1 := Lib.hid qG1
  have SM := Lib.hid qSM
  clear qG1 qSM
  refine' wpAnyH_take (i := 0) ?h1x0b ?hsx0b ?hfx0b ?hrx0b ?hQx0b (Or.inl ⟨?hwx0b, ?hyx0b⟩) hS ?restx0b
  case h1x0b => (simp only [List.getElem?_toArray, List.getElem?_cons_zero]; rfl)
  case hsx0b => kernel_rfl
  case hfx0b => kernel_rfl
  case hrx0b => kernel_rfl
  case hQx0b => exact fun _ _ _ h => h
  case hwx0b => rfl
  case hyx0b =>
    intro W hW
    go_simp
    try with_reducible rfl
  simp only [Act.put, List.setIfInBounds_toArray, List.set_cons_succ, List.set_cons_zero]
  refine' wpAnyH_take (i := 4) ?h1x4b ?hsx4b ?hfx4b ?hrx4b ?hQx4b (Or.inl ⟨?hwx4b, ?hyx4b⟩) hS ?restx4b
  case h1x4b => (simp only [List.getElem?_toArray, List.getElem?_cons_succ, List.getElem?_cons_zero]; rfl)
  case hsx4b => kernel_rfl
  case hfx4b => kernel_rfl
  case hrx4b => kernel_rfl
  case hQx4b => exact fun _ _ _ h => h
  case hwx4b => rfl
  case hyx4b =>
    intro W hW
    go_simp
    try with_reducible rfl
  simp only [Act.put, List.setIfInBounds_toArray, List.set_cons_succ, List.set_cons_zero]
  refine' wpAnyH_take (i := 7) ?h1x7b ?hsx7b ?hfx7b ?hrx7b ?hQx7b (Or.inl ⟨?hwx7b, ?hyx7b⟩) hS ?restx7b
  case h1x7b => (simp only [List.getElem?_toArray, List.getElem?_cons_succ, List.getElem?_cons_zero]; rfl)
  case hsx7b => kernel_rfl
  case hfx7b => kernel_rfl
  case hrx7b => kernel_rfl
  case hQx7b => exact fun _ _ _ h => h
  case hwx7b => rfl
  case hyx7b =>
    intro W hW
    go_simp
    try with_reducible rfl
  simp only [Act.put, List.setIfInBounds_toArray, List.set_cons_succ, List.set_cons_zero]
  refine' wpAnyH_take (i := 1) ?h1x1b ?hsx1b ?hfx1b ?hrx1b ?hQx1b (Or.inl ⟨?hwx1b, ?hyx1b⟩) hS ?restx1b
  case h1x1b => (simp only [List.getElem?_toArray, List.getElem?_cons_succ, List.getElem?_cons_zero]; rfl)
  case hsx1b => kernel_rfl
  case hfx1b => kernel_rfl
  case hrx1b => kernel_rfl
  case hQx1b => exact fun _ _ _ h => h
  case hwx1b => rfl
  case hyx1b =>
    intro W hW
    go_simp
    try with_reducible rfl
  simp only [Act.put, List.setIfInBounds_toArray, List.set_cons_succ, List.set_cons_zero]
  refine' wpAnyH_take (i := 5) ?h1x5b ?hsx5b ?hfx5b ?hrx5b ?hQx5b (Or.inl ⟨?hwx5b, ?hyx5b⟩) hS ?restx5b
  case h1x5b => (simp only [List.getElem?_toArray, List.getElem?_cons_succ, List.getElem?_cons_zero]; rfl)
  case hsx5b => kernel_rfl
  case hfx5b => kernel_rfl
  case hrx5b => kernel_rfl
  case hQx5b => exact fun _ _ _ h => h
  case hwx5b => rfl
  case hyx5b =>
    intro W hW
    go_simp
    try with_reducible rfl
  simp only [Act.put, List.setIfInBounds_toArray, List.set_cons_succ, List.set_cons_zero]
  refine' wpAnyH_take (i := 8) ?h1x8b ?hsx8b ?hfx8b ?hrx8b ?hQx8b (Or.inl ⟨?hwx8b, ?hyx8b⟩) hS ?restx8b
  case h1x8b => (simp only [List.getElem?_toArray, List.getElem?_cons_succ, List.getElem?_cons_zero]; rfl)
  case hsx8b => kernel_rfl
  case hfx8b => kernel_rfl
  case hrx8b => kernel_rfl
  case hQx8b => exact fun _ _ _ h => h
  case hwx8b => rfl
  case hyx8b =>
    intro W hW
    have dd := C33.out _ hW.2
    go_simp
    try with_reducible rfl
  simp only [Act.put, List.setIfInBounds_toArray, List.set_cons_succ, List.set_cons_zero]
  refine' wpAnyH_take (i := 2) ?h1x2b ?hsx2b ?hfx2b ?hrx2b ?hQx2b (Or.inl ⟨?hwx2b, ?hyx2b⟩) hS ?restx2b
  case h1x2b => (simp only [List.getElem?_toArray, List.getElem?_cons_succ, List.getElem?_cons_zero]; rfl)
  case hsx2b => kernel_rfl
  case hfx2b => kernel_rfl
  case hrx2b => kernel_rfl
  case hQx2b => exact fun _ _ _ h => h
  case hwx2b => rfl
  case hyx2b =>
    intro W hW
    have dd := C0.out _ hW.2
    go_simp
    try with_reducible rfl
  simp only [Act.put, List.setIfInBounds_toArray, List.set_cons_succ, List.set_cons_zero]
  refine' wpAnyH_take (i := 6) ?h1x6b ?hsx6b ?hfx6b ?hrx6b ?hQx6b (Or.inl ⟨?hwx6b, ?hyx6b⟩) hS ?restx6b
  case h1x6b => (simp only [List.getElem?_toArray, List.getElem?_cons_succ, List.getElem?_cons_zero]; rfl)
  case hsx6b => kernel_rfl
  case hfx6b => kernel_rfl
  case hrx6b => kernel_rfl
  case hQx6b => exact fun _ _ _ h => h
  case hwx6b => rfl
  case hyx6b =>
    intro W hW
    go_simp
    try with_reducible rfl
  simp only [Act.put, List.setIfInBounds_toArray, List.set_cons_succ, List.set_cons_zero]
  refine wpAnyH_ready (rs := [3]) (by kernel_rfl) (by simp) ?_
  refine' (AllReadyH.cons ?hoc3b (fun K hK => ?stc3b) AllReadyH.nil)
  case hoc3b => (simp only [List.getElem?_toArray, List.getElem?_cons_succ, List.getElem?_cons_zero]; rfl)
  go_simp
  refine (PS.out Wbs).mono ?_
  rintro e Wbx3 ⟨ga, rfl, hs, hb, hn⟩
  have G1 := Lib.hid ((hb.block _ (blk_lt G1.out)).trans G1.out)
  have SM := Lib.hid (SM.out.below hb)
  have Sa := Lib.hid hs
  clear hs hn
  go_wp2_with fail
  refine hK.out _ _ (⟨hS.1.trans (hb.mono hS.1.size), (hb.block _ (blk_lt hS.2)).trans hS.2⟩) (fun hHeld => ?_)
  clear hK K
  try simp only [Act.put, List.setIfInBounds_toArray, List.set_cons_succ, List.set_cons_zero]
  clear hS
  have hS := hHeld
  clear hHeld
  clear hb
  refine wpAnyH_ready (rs := [9]) (by kernel_rfl) (by simp) ?_
  refine' (AllReadyH.cons ?hoc9bx3 (fun K hK => ?stc9bx3) AllReadyH.nil)
  case hoc9bx3 => (simp only [List.getElem?_toArray, List.getElem?_cons_succ, List.getElem?_cons_zero]; rfl)
  go_simp
  refine (PT.out Wbx3).mono ?_
  rintro e Wbx3x9 ⟨gb, rfl, hs, hb, hn⟩
  have G1 := Lib.hid ((hb.block _ (blk_lt G1.out)).trans G1.out)
  have SM := Lib.hid (SM.out.below hb)
  have Sa := Lib.hid (Sa.out.below hb)
  have Sb := Lib.hid hs
  clear hs hn
  go_wp2_with fail
  refine hK.out _ _ (⟨hS.1.trans (hb.mono hS.1.size), (hb.block _ (blk_lt hS.2)).trans hS.2⟩) (fun hHeld => ?_)
  clear hK K
  try simp only [Act.put, List.setIfInBounds_toArray, List.set_cons_succ, List.set_cons_zero]
  clear hS
  have hS := hHeld
  clear hHeld
  clear hb
  refine wpAnyH_ready (rs := [10]) (by kernel_rfl) (by simp) ?_
  refine' (AllReadyH.cons ?hoc10bx3x9 (fun K hK => ?stc10bx3x9) AllReadyH.nil)
  case hoc10bx3x9 => (simp only [List.getElem?_toArray, List.getElem?_cons_succ, List.getElem?_cons_zero]; rfl)
  go_simp
  have hb := (Below.refl Wbx3x9.heap.size Wbx3x9).alloc (Nat.le_refl _) (.cells #[.slice (some ⟨ga, 0, none⟩) 4 4, .slice (some ⟨w.heap.size, 1, none⟩) 32 32, .slice (some ⟨gb, 0, none⟩) 8 8] 43)
  refine hK.out _ _ (⟨hS.1.trans (hb.mono hS.1.size), (hb.block _ (blk_lt hS.2)).trans hS.2⟩) (fun hHeld => ?_)
  clear hK K
  try simp only [Act.put, List.setIfInBounds_toArray, List.set_cons_succ, List.set_cons_zero]
  have qGP := heap_alloc_new Wbx3x9 (.cells #[.slice (some ⟨ga, 0, none⟩) 4 4, .slice (some ⟨w.heap.size, 1, none⟩) 32 32, .slice (some ⟨gb, 0, none⟩) 8 8] 43)
  have hgp := hS.1.size
  have qG1 := (hb.block _ (blk_lt G1.out)).trans G1.out
  have qSM := SM.out.below hb
  have qSa := Sa.out.below hb
  have qSb := Sb.out.below hb
  clear hS
  have hS := hHeld
  clear hHeld
  clear hb
  clear G1 SM Sa Sb
  generalize Wbx3x9.alloc (.cells #[.slice (some ⟨ga, 0, none⟩) 4 4, .slice (some ⟨w.heap.size, 1, none⟩) 32 32, .slice (some ⟨gb, 0, none⟩) 8 8] 43) = Wbx3x9x10 at *
  generalize Wbx3x9.heap.size = gp at *
  have G1 := Lib.hid qG1
  have SM := Lib.hid qSM
  have Sa := Lib.hid qSa
  have Sb := Lib.hid qSb
  have GP := Lib.hid qGP
  clear qG1 qSM qSa qSb qGP
  refine wpAnyH_ready (rs := [11]) (by kernel_rfl) (by simp) ?_
  refine' (AllReadyH.cons ?hoc11bx3x9x10 (fun K hK => ?stc11bx3x9x10) AllReadyH.nil)
  case hoc11bx3x9x10 => (simp only [List.getElem?_toArray, List.getElem?_cons_succ, List.getElem?_cons_zero]; rfl)
  go_simp
  refine (VA.out Wbx3x9x10 _ _ _ GP.out Sa.out SM.out Sb.out).mono ?_
  rintro e Wbx3x9x10x11 ⟨rfl, hb⟩
  have G1 := Lib.hid ((hb.block _ (blk_lt G1.out)).trans G1.out)
  have SM := Lib.hid (SM.out.below hb)
  have Sa := Lib.hid (Sa.out.below hb)
  have Sb := Lib.hid (Sb.out.below hb)
  have GP := Lib.hid ((hb.block _ (blk_lt GP.out)).trans GP.out)
  go_wp2_with fail
  refine hK.out _ _ (⟨hS.1.trans (hb.mono hS.1.size), (hb.block _ (blk_lt hS.2)).trans hS.2⟩) (fun hHeld => ?_)
  clear hK K
  try simp only [Act.put, List.setIfInBounds_toArray, List.set_cons_succ, List.set_cons_zero]
  clear hS
  have hS := hHeld
  clear hHeld
  clear hb
  refine wpAnyH_ready (rs := [12]) (by kernel_rfl) (by simp) ?_
  refine' (AllReadyH.cons ?hoc12bx3x9x10x11 (fun K hK => ?stc12bx3x9x10x11) AllReadyH.nil)
  case hoc12bx3x9x10x11 => (simp only [List.getElem?_toArray, List.getElem?_cons_succ, List.getElem?_cons_zero]; rfl)
  clear Sa Sb SM GP
  refine step_store_row rfl 38 (.tmp 2) (.tmp 14) rfl (w.heap.size + 1) C rfl rfl 38 _ G1.out IZ.out SZ.out OC.out ?_
  refine hK.out _ _ (⟨hS.1.trans (below_row _ _ (by omega)), by rw [setRow_other _ _ _ _ (show w.heap.size ≠ (w.heap.size + 1) from (by omega))]; exact hS.2⟩) (fun hHeld => ?_)
  clear hK K
  simp only [Act.put]
  have qG1 := setRow_heap _ (w.heap.size + 1) _ C _ _ G1.out
  clear hS
  have hS := hHeld
  clear hHeld
  clear G1
  generalize Wbx3x9x10x11.setRow (w.heap.size + 1) C = Wbx3x9x10x11x12 at *
  have G1 := Lib.hid qG1
  clear qG1
  refine wpAnyH_done (by kernel_rfl) ?_ _
  go_wp2_with fail
  exact bodyPost_ret (v := .agg C) (results_cell_row Try.results17 _ _ (w.heap.size + 1) 38 C (0, 0) _ rfl G1.out U38.out rfl IZ.out) rfl ⟨rfl, hS.1⟩
/-! ### Roots -/
def b2i (h : Bool) : Int := if h = true then 1 else 0
theorem b2i_bd (h : Bool) : 0 ≤ b2i h ∧ b2i h ≤ 255 := by cases h <;> decide
def oMay (h : Bool) (s : Int) (z : List Int) : Prop := h = true ∨ (s = 0 ∧ z = zs 32)
instance (h : Bool) (s : Int) (z : List Int) : Decidable (oMay h s z) := by unfold oMay; infer_instance
def oP (h : Bool) (s : Int) (z : List Int) : List (List Int) := [be 1 (b2i h), be 4 s, z]
def oW (h : Bool) (s : Int) (z : List Int) : List Int := fv (oP h s z)
theorem oW_len {h : Bool} {s : Int} {z : List Int} (hl : z.length = 32) : (oW h s z).length = 44 := fv_len (by simp [oP, be_len, hl])
theorem oW_byt {h : Bool} {s : Int} {z : List Int} (hz : Byt z) : Byt (oW h s z) := fv_byt (by simpa [oP] using (be_byt 1 (b2i h)).append ((be_byt 4 s).append hz))
def ocells (h : Bool) (s : Int) (z : List Int) : Array Value := (.bool h :: rcells s z).toArray
theorem oc0 {h : Bool} {s : Int} {z : List Int} {W : World} {g : Nat} {ty : TypeId} (e : W.heap[g]? = some (.cells (ocells h s z) ty (0, 0))) : W.cell? ⟨g, 0, none⟩ = some (.bool h) := by rw [cell_of_row _ _ _ _ _ _ e]; simp [ocells]
theorem oc1 {h : Bool} {s : Int} {z : List Int} {W : World} {g : Nat} {ty : TypeId} (e : W.heap[g]? = some (.cells (ocells h s z) ty (0, 0))) : W.cell? ⟨g, 1, none⟩ = some (.int .u32 s) := by rw [cell_of_row _ _ _ _ _ _ e]; simp [ocells, rcells]
theorem oroot {h : Bool} {s : Int} {z : List Int} {W : World} {g : Nat} {ty : TypeId} (e : W.heap[g]? = some (.cells (ocells h s z) ty (0, 0))) : W.rangeAt g 1 (rcells s z) := fun j v hv => by
  rw [cell_of_row _ _ _ _ _ _ e, ← hv]
  simp [ocells, show 1 + j = j + 1 by omega]
theorem osum {h : Bool} {s : Int} {z : List Int} (hz : Byt z) (hl : z.length = 32) {W : World} {g : Nat} {ty : TypeId} (e : W.heap[g]? = some (.cells (ocells h s z) ty (0, 0))) : Sees W (.slice (some ⟨g, 2, none⟩) 32 32) z := by
  refine ⟨hz, .inr (.inr ⟨g, 2, 32, by rw [hl], fun e => by rw [e] at hl; simp at hl, by rw [hl]; exact Nat.le_refl _, by decide, fun i hi => ?_⟩)⟩
  rw [cell_of_row _ _ _ _ _ _ e]
  simp [ocells, rcells, nth, List.getD, hi, show 2 + i = i + 1 + 1 by omega]
set_option maxRecDepth 100000 in
theorem bld35 (w : World) : (Instr.build 35 #[]).run Try.prog w = .ok (.agg (rcells 0 (zs 32)).toArray) w := by kernel_rfl
theorem rcells_len {s : Int} {z : List Int} (h : z.length = 32) : (Try.prog.info? 35).map (·.size) = some (rcells s z).length := by
  rw [show (rcells s z).length = 33 by simp [rcells, h]]; kernel_rfl
set_option maxRecDepth 100000 in
theorem eq35d (d : Nat) (s s' : Int) (z z' : List Int) (hz : Byt z) (hz' : Byt z') (lz : z.length = 32) (lz' : z'.length = 32) (w : World) :
    (Op.equalIn (d + 3) 35 (.agg (rcells s z).toArray) (.agg (rcells s' z').toArray)).run Try.prog w = .ok (decide (s = s' ∧ z = z')) w := by
  rw [run_equalIn_struct w (d + 2) 35 _ _ (by kernel_rfl) (by kernel_rfl)]
  have hf : (Try.prog.fieldsOf 35).toList.map (fun f => (decide (f.name ≠ "_"), f.type, f.offset)) = [(true, 31, 0), (true, 33, 1)] := by kernel_rfl
  obtain ⟨f1, r1, e1, a1, b1, c1, g1⟩ := fields_cons hf
  obtain ⟨f2, r2, e2, a2, b2, c2, g2⟩ := fields_cons g1
  have e4 : r2 = [] := by simpa using g2
  rw [e1, e2, e4]
  rw [eqFields_int (d + 1) 31 .u32 0 (by kernel_rfl) _ _ s s' (by simp [rcells]) (by simp [rcells]) f1 _ a1 b1 c1 _ w
    (eqFields_arr' d 33 32 1 (by kernel_rfl) (by kernel_rfl) _ _ z z' (rcells_drop s z lz) (rcells_drop s' z' lz') hz hz' lz lz' f2 _ a2 b2 c2 _ w (eqFields_nil _ _ _ _ w))]
  congr 1
  by_cases h1 : s = s'
  · by_cases h2 : z = z'
    · simp [h1, h2]
    · simp [h2]
  · simp [h1]
set_option maxRecDepth 100000 in
theorem digitC (h : Bool) (w : World) : Calls Try.prog 45 #[.bool h] w fun e w' => e = .returned (.int .u8 (b2i h)) ∧ w = w' := by
  cases h
  · go_enter Try.func45, Try.ntmps45
    go_wp2
    go_ret
    exact ⟨rfl, rfl⟩
  · go_enter Try.func45, Try.ntmps45
    go_wp2
    go_ret
    exact ⟨rfl, rfl⟩
set_option maxRecDepth 100000 in
set_option maxHeartbeats 4000000 in
theorem writeRoot_no (h : Bool) (s : Int) (z : List Int) (hz : Byt z) (hl : z.length = 32) (hm : ¬ oMay h s z) (w : World) : Calls Try.prog 26 #[.agg (ocells h s z)] w (WrP w (oMay h s z) (oW h s z)) := by
  have hh : h = false := by
    cases h with
    | true => exact absurd (.inl rfl) hm
    | false => rfl
  have EQ : Hid (∀ W, (Op.equalIn 10000 35 (.agg (rcells s z).toArray) (.agg (rcells 0 (zs 32)).toArray)).run Try.prog W = .ok false W) := fun W => by
    rw [eq35d 9997 _ _ _ _ hz (zs_byt _) hl (zs_len _) W, decide_eq_false (fun e => hm (.inr e))]
  have NO : Hid (∀ W', Below w.heap.size w W' → WrP w (oMay h s z) (oW h s z) (.returned (.tuple #[.agg (bcells (zs 44)), .int .i64 3])) W') := fun W' hb => wrP_no hm hb
  have B35 := Lib.hid bld35
  have IR := Lib.hid (rcells_len (s := s) hl)
  have HZ := z38
  have HB := b38
  have BE : Hid (Below w.heap.size w ((w.alloc (.cells (ocells h s z) 55)).alloc (.cells (bcells (zs 44)) 38))) := ((Below.refl _ _).alloc (Nat.le_refl _) _).alloc (by simp) _
  have G1 := Lib.hid (heap_alloc2_new w (.cells (ocells h s z) 55) (.cells (bcells (zs 44)) 38))
  have G0 : ((w.alloc (.cells (ocells h s z) 55)).alloc (.cells (bcells (zs 44)) 38)).heap[w.heap.size]? = some (.cells (ocells h s z) 55 (0, 0)) := by
    rw [Below.heap_alloc _ _ _ (by simp)]; exact heap_alloc_new w _
  have c0 := oc0 G0
  have RT := Lib.hid (oroot G0)
  have IZ := Lib.hid (i38 (zs_len 44))
  have OC := Lib.hid (one_cells (zs 44))
  have U38 := Lib.hid Try.underlying38
  clear G0 hm hz hl
  obtain ⟨W0, hW0⟩ : ∃ W0, W0 = (w.alloc (.cells (ocells h s z) 55)).alloc (.cells (bcells (zs 44)) 38) := ⟨_, rfl⟩
  rw [← hW0] at BE G1 c0 RT
  have HW0 := Lib.hid hW0
  clear hW0
  rw [hh] at c0
  have eq := EQ.out
  generalize bcells (zs 44) = Z at *
  generalize rcells s z = R at *
  generalize rcells 0 (zs 32) = R0 at *
  clear EQ hh
  go_enter Try.func26, Try.ntmps26
  go_upto_region 1 with (fail)
  rw [← HW0.out]
  go_wp2_with (first
    | (refine wpList_mid_met rfl 35 (.tmp 8) rfl w.heap.size 1 rfl R _ RT.out Try.underlying35 rfl IR.out ?_)
    | (refine wpList_blank_met rfl 35 rfl (B35.out _) ?_)
    | (refine wpList_store_row rfl 38 (.tmp 2) (.tmp 13) rfl (w.heap.size + 1) Z rfl rfl 38 Z G1.out IZ.out rfl OC.out ?_))
  exact bodyPost_ret (v := .tuple #[.agg Z, .int .i64 3]) (results_cell_tmp Try.results26 _ _ (w.heap.size + 1) 38 _ (0, 0) _ rfl (setRow_heap _ _ _ _ _ _ G1.out) U38.out rfl IZ.out) rfl (NO.out _ (BE.out.trans (below_row _ _ (by omega))))
set_option maxRecDepth 100000 in
set_option maxHeartbeats 8000000 in
theorem writeRoot_yes (h : Bool) (s : Int) (z : List Int) (s0 : 0 ≤ s) (s1 : s ≤ 4294967295) (hz : Byt z) (hl : z.length = 32) (hm : oMay h s z) (w : World) : Calls Try.prog 26 #[.agg (ocells h s z)] w (WrP w (oMay h s z) (oW h s z)) := by
  have EQ : Hid (h = false → ∀ W, (Op.equalIn 10000 35 (.agg (rcells s z).toArray) (.agg (rcells 0 (zs 32)).toArray)).run Try.prog W = .ok true W) := fun hf W => by
    rw [eq35d 9997 _ _ _ _ hz (zs_byt _) hl (zs_len _) W, decide_eq_true]
    rcases hm with h | h
    · rw [hf] at h; cases h
    · exact h
  have YES : Hid (∀ W', Below w.heap.size w W' → WrP w (oMay h s z) (oW h s z) (.returned (.tuple #[.agg (bcells (oW h s z)), .int .i64 0])) W') := fun W' hb => wrP_yes hm hb
  have B35 := Lib.hid bld35
  have IR := Lib.hid (rcells_len (s := s) hl)
  have HZ := z38
  have BE : Hid (Below w.heap.size w ((w.alloc (.cells (ocells h s z) 55)).alloc (.cells (bcells (zs 44)) 38))) := ((Below.refl _ _).alloc (Nat.le_refl _) _).alloc (by simp) _
  have G1 := Lib.hid (heap_alloc2_new w (.cells (ocells h s z) 55) (.cells (bcells (zs 44)) 38))
  have G0 : Hid (((w.alloc (.cells (ocells h s z) 55)).alloc (.cells (bcells (zs 44)) 38)).heap[w.heap.size]? = some (.cells (ocells h s z) 55 (0, 0))) := by
    show _ = _
    rw [Below.heap_alloc _ _ _ (by simp)]; exact heap_alloc_new w _
  have c0 := oc0 G0.out
  have RT := Lib.hid (oroot G0.out)
  have SM := Lib.hid (osum hz hl G0.out)
  have DI := Lib.hid (fun W => digitC h W)
  have PD := Lib.hid (fun W => putb8 (b2i h) (b2i_bd h).1 (b2i_bd h).2 W)
  have PS := Lib.hid (fun W => putb32 s s0 s1 W)
  have VA : Hid (∀ (W : World) (g q r : Nat), W.heap[g]? = some (.cells #[.slice (some ⟨q, 0, none⟩) 1 1, .slice (some ⟨r, 0, none⟩) 4 4, .slice (some ⟨w.heap.size, 2, none⟩) 32 32] 43 (0, 0)) → Sees W (.slice (some ⟨q, 0, none⟩) 1 1) (be 1 (b2i h)) →
      Sees W (.slice (some ⟨r, 0, none⟩) 4 4) (be 4 s) → Sees W (.slice (some ⟨w.heap.size, 2, none⟩) 32 32) z →
      Calls Try.prog 32 #[.slice (some ⟨g, 0, none⟩) 3 3] W fun e w' => e = .returned (.agg (bcells (oW h s z))) ∧ Below W.heap.size W w') := fun W g q r hg hs hm ht =>
    valueS W g [_, _, _] (oP h s z) (oW h s z) 3 rfl rfl (by simp [oP]) (by simp [oP, be_len, hl]) hg ⟨hs, be_ne 0 _, hm, be_ne 3 s, ht, ne_of_len hl, trivial⟩
  have IZ := Lib.hid (i38 (oW_len (h := h) (s := s) hl))
  have SZ := Lib.hid (bcells_sz (show (zs 44).length = (oW h s z).length by rw [zs_len, oW_len hl]))
  have OC := Lib.hid (one_cells (oW h s z))
  have U38 := Lib.hid Try.underlying38
  obtain ⟨W0, hW0⟩ : ∃ W0, W0 = (w.alloc (.cells (ocells h s z) 55)).alloc (.cells (bcells (zs 44)) 38) := ⟨_, rfl⟩
  rw [← hW0] at BE G1 G0 SM c0 RT
  have HW0 := Lib.hid hW0
  have C0 : Hid (∀ W : World, W.heap[w.heap.size]? = some (.cells (ocells h s z) 55 (0, 0)) → W.cell? ⟨w.heap.size, 0, none⟩ = some (.bool h)) := fun W h => oc0 h
  have C1 : Hid (∀ W : World, W.heap[w.heap.size]? = some (.cells (ocells h s z) 55 (0, 0)) → W.cell? ⟨w.heap.size, 1, none⟩ = some (.int .u32 s)) := fun W h => oc1 h
  clear hW0 hl s0 s1 hz hm
  generalize bcells (zs 44) = Z at *
  generalize hC : bcells (oW h s z) = C at *
  clear hC
  generalize ocells h s z = K at *
  generalize rcells s z = R at *
  generalize rcells 0 (zs 32) = R0 at *
  generalize hB : b2i h = d at *
  clear hB
  cases hh : h with
  | true =>
    rw [hh] at c0 C0 DI YES
    clear EQ RT B35 IR
    go_enter Try.func26, Try.ntmps26
    go_upto_region 1 with (fail)
    rw [← HW0.out]
    go_upto_region 3 with (fail)
    refine wp_region_held_drew (S := fun W => Below w.heap.size w W ∧ W.heap[w.heap.size]? = some (.cells K 55 (0, 0))) (by kernel_rfl) (⟨BE.out.drew, G0.out⟩) (fun hS => ?_)
    have hb0 : Below W0.heap.size W0 W0.drew := (Below.refl _ _).drew
    have qG1 := (hb0.block _ (blk_lt G1.out)).trans G1.out
    have qSM := SM.out.below hb0
    clear hb0 G1 SM
    generalize W0.drew = Was at hS qG1 qSM ⊢
    have G1 := Lib.hid qG1
    have SM := Lib.hid qSM
    clear qG1 qSM
    refine' wpAnyH_take (i := 0) ?h1x0a ?hsx0a ?hfx0a ?hrx0a ?hQx0a (Or.inl ⟨?hwx0a, ?hyx0a⟩) hS ?restx0a
    case h1x0a => (simp only [List.getElem?_toArray, List.getElem?_cons_zero]; rfl)
    case hsx0a => kernel_rfl
    case hfx0a => kernel_rfl
    case hrx0a => kernel_rfl
    case hQx0a => exact fun _ _ _ h => h
    case hwx0a => rfl
    case hyx0a =>
      intro W hW
      go_simp
      try with_reducible rfl
    simp only [Act.put, List.setIfInBounds_toArray, List.set_cons_succ, List.set_cons_zero]
    refine' wpAnyH_take (i := 4) ?h1x4a ?hsx4a ?hfx4a ?hrx4a ?hQx4a (Or.inl ⟨?hwx4a, ?hyx4a⟩) hS ?restx4a
    case h1x4a => (simp only [List.getElem?_toArray, List.getElem?_cons_succ, List.getElem?_cons_zero]; rfl)
    case hsx4a => kernel_rfl
    case hfx4a => kernel_rfl
    case hrx4a => kernel_rfl
    case hQx4a => exact fun _ _ _ h => h
    case hwx4a => rfl
    case hyx4a =>
      intro W hW
      go_simp
      try with_reducible rfl
    simp only [Act.put, List.setIfInBounds_toArray, List.set_cons_succ, List.set_cons_zero]
    refine' wpAnyH_take (i := 8) ?h1x8a ?hsx8a ?hfx8a ?hrx8a ?hQx8a (Or.inl ⟨?hwx8a, ?hyx8a⟩) hS ?restx8a
    case h1x8a => (simp only [List.getElem?_toArray, List.getElem?_cons_succ, List.getElem?_cons_zero]; rfl)
    case hsx8a => kernel_rfl
    case hfx8a => kernel_rfl
    case hrx8a => kernel_rfl
    case hQx8a => exact fun _ _ _ h => h
    case hwx8a => rfl
    case hyx8a =>
      intro W hW
      go_simp
      try with_reducible rfl
    simp only [Act.put, List.setIfInBounds_toArray, List.set_cons_succ, List.set_cons_zero]
    refine' wpAnyH_take (i := 1) ?h1x1a ?hsx1a ?hfx1a ?hrx1a ?hQx1a (Or.inl ⟨?hwx1a, ?hyx1a⟩) hS ?restx1a
    case h1x1a => (simp only [List.getElem?_toArray, List.getElem?_cons_succ, List.getElem?_cons_zero]; rfl)
    case hsx1a => kernel_rfl
    case hfx1a => kernel_rfl
    case hrx1a => kernel_rfl
    case hQx1a => exact fun _ _ _ h => h
    case hwx1a => rfl
    case hyx1a =>
      intro W hW
      have dd := C0.out _ hW.2
      go_simp
      try with_reducible rfl
    simp only [Act.put, List.setIfInBounds_toArray, List.set_cons_succ, List.set_cons_zero]
    refine' wpAnyH_take (i := 5) ?h1x5a ?hsx5a ?hfx5a ?hrx5a ?hQx5a (Or.inl ⟨?hwx5a, ?hyx5a⟩) hS ?restx5a
    case h1x5a => (simp only [List.getElem?_toArray, List.getElem?_cons_succ, List.getElem?_cons_zero]; rfl)
    case hsx5a => kernel_rfl
    case hfx5a => kernel_rfl
    case hrx5a => kernel_rfl
    case hQx5a => exact fun _ _ _ h => h
    case hwx5a => rfl
    case hyx5a =>
      intro W hW
      go_simp
      try with_reducible rfl
    simp only [Act.put, List.setIfInBounds_toArray, List.set_cons_succ, List.set_cons_zero]
    refine' wpAnyH_take (i := 9) ?h1x9a ?hsx9a ?hfx9a ?hrx9a ?hQx9a (Or.inl ⟨?hwx9a, ?hyx9a⟩) hS ?restx9a
    case h1x9a => (simp only [List.getElem?_toArray, List.getElem?_cons_succ, List.getElem?_cons_zero]; rfl)
    case hsx9a => kernel_rfl
    case hfx9a => kernel_rfl
    case hrx9a => kernel_rfl
    case hQx9a => exact fun _ _ _ h => h
    case hwx9a => rfl
    case hyx9a =>
      intro W hW
      go_simp
      try with_reducible rfl
    simp only [Act.put, List.setIfInBounds_toArray, List.set_cons_succ, List.set_cons_zero]
    refine' wpAnyH_take (i := 6) ?h1x6a ?hsx6a ?hfx6a ?hrx6a ?hQx6a (Or.inl ⟨?hwx6a, ?hyx6a⟩) hS ?restx6a
    case h1x6a => (simp only [List.getElem?_toArray, List.getElem?_cons_succ, List.getElem?_cons_zero]; rfl)
    case hsx6a => kernel_rfl
    case hfx6a => kernel_rfl
    case hrx6a => kernel_rfl
    case hQx6a => exact fun _ _ _ h => h
    case hwx6a => rfl
    case hyx6a =>
      intro W hW
      have dd := C1.out _ hW.2
      go_simp
      try with_reducible rfl
    simp only [Act.put, List.setIfInBounds_toArray, List.set_cons_succ, List.set_cons_zero]
    refine' wpAnyH_take (i := 10) ?h1x10a ?hsx10a ?hfx10a ?hrx10a ?hQx10a (Or.inl ⟨?hwx10a, ?hyx10a⟩) hS ?restx10a
    case h1x10a => (simp only [List.getElem?_toArray, List.getElem?_cons_succ, List.getElem?_cons_zero]; rfl)
    case hsx10a => kernel_rfl
    case hfx10a => kernel_rfl
    case hrx10a => kernel_rfl
    case hQx10a => exact fun _ _ _ h => h
    case hwx10a => rfl
    case hyx10a =>
      intro W hW
      go_simp
      try with_reducible rfl
    simp only [Act.put, List.setIfInBounds_toArray, List.set_cons_succ, List.set_cons_zero]
    refine wpAnyH_ready (rs := [2]) (by kernel_rfl) (by simp) ?_
    refine' (AllReadyH.cons ?hoc2a (fun K hK => ?stc2a) AllReadyH.nil)
    case hoc2a => (simp only [List.getElem?_toArray, List.getElem?_cons_succ, List.getElem?_cons_zero]; rfl)
    go_simp
    refine (DI.out Was).mono ?_
    rintro e w' ⟨rfl, rfl⟩
    go_wp2_with fail
    refine hK.out _ _ hS (fun hHeld => ?_)
    clear hK K
    try simp only [Act.put, List.setIfInBounds_toArray, List.set_cons_succ, List.set_cons_zero]
    clear hS
    have hS := hHeld
    clear hHeld
    refine wpAnyH_ready (rs := [3]) (by kernel_rfl) (by simp) ?_
    refine' (AllReadyH.cons ?hoc3ax2 (fun K hK => ?stc3ax2) AllReadyH.nil)
    case hoc3ax2 => (simp only [List.getElem?_toArray, List.getElem?_cons_succ, List.getElem?_cons_zero]; rfl)
    go_simp
    refine (PD.out Was).mono ?_
    rintro e Wax2x3 ⟨ga, rfl, hs, hb, hn⟩
    have G1 := Lib.hid ((hb.block _ (blk_lt G1.out)).trans G1.out)
    have SM := Lib.hid (SM.out.below hb)
    have Sa := Lib.hid hs
    clear hs hn
    go_wp2_with fail
    refine hK.out _ _ (⟨hS.1.trans (hb.mono hS.1.size), (hb.block _ (blk_lt hS.2)).trans hS.2⟩) (fun hHeld => ?_)
    clear hK K
    try simp only [Act.put, List.setIfInBounds_toArray, List.set_cons_succ, List.set_cons_zero]
    clear hS
    have hS := hHeld
    clear hHeld
    clear hb
    refine wpAnyH_ready (rs := [7]) (by kernel_rfl) (by simp) ?_
    refine' (AllReadyH.cons ?hoc7ax2x3 (fun K hK => ?stc7ax2x3) AllReadyH.nil)
    case hoc7ax2x3 => (simp only [List.getElem?_toArray, List.getElem?_cons_succ, List.getElem?_cons_zero]; rfl)
    go_simp
    refine (PS.out Wax2x3).mono ?_
    rintro e Wax2x3x7 ⟨gb, rfl, hs, hb, hn⟩
    have G1 := Lib.hid ((hb.block _ (blk_lt G1.out)).trans G1.out)
    have SM := Lib.hid (SM.out.below hb)
    have Sa := Lib.hid (Sa.out.below hb)
    have Sb := Lib.hid hs
    clear hs hn
    go_wp2_with fail
    refine hK.out _ _ (⟨hS.1.trans (hb.mono hS.1.size), (hb.block _ (blk_lt hS.2)).trans hS.2⟩) (fun hHeld => ?_)
    clear hK K
    try simp only [Act.put, List.setIfInBounds_toArray, List.set_cons_succ, List.set_cons_zero]
    clear hS
    have hS := hHeld
    clear hHeld
    clear hb
    refine wpAnyH_ready (rs := [11]) (by kernel_rfl) (by simp) ?_
    refine' (AllReadyH.cons ?hoc11ax2x3x7 (fun K hK => ?stc11ax2x3x7) AllReadyH.nil)
    case hoc11ax2x3x7 => (simp only [List.getElem?_toArray, List.getElem?_cons_succ, List.getElem?_cons_zero]; rfl)
    go_simp
    have hb := (Below.refl Wax2x3x7.heap.size Wax2x3x7).alloc (Nat.le_refl _) (.cells #[.slice (some ⟨ga, 0, none⟩) 1 1, .slice (some ⟨gb, 0, none⟩) 4 4, .slice (some ⟨w.heap.size, 2, none⟩) 32 32] 43)
    refine hK.out _ _ (⟨hS.1.trans (hb.mono hS.1.size), (hb.block _ (blk_lt hS.2)).trans hS.2⟩) (fun hHeld => ?_)
    clear hK K
    try simp only [Act.put, List.setIfInBounds_toArray, List.set_cons_succ, List.set_cons_zero]
    have qGP := heap_alloc_new Wax2x3x7 (.cells #[.slice (some ⟨ga, 0, none⟩) 1 1, .slice (some ⟨gb, 0, none⟩) 4 4, .slice (some ⟨w.heap.size, 2, none⟩) 32 32] 43)
    have hgp := hS.1.size
    have qG1 := (hb.block _ (blk_lt G1.out)).trans G1.out
    have qSM := SM.out.below hb
    have qSa := Sa.out.below hb
    have qSb := Sb.out.below hb
    clear hS
    have hS := hHeld
    clear hHeld
    clear hb
    clear G1 SM Sa Sb
    generalize Wax2x3x7.alloc (.cells #[.slice (some ⟨ga, 0, none⟩) 1 1, .slice (some ⟨gb, 0, none⟩) 4 4, .slice (some ⟨w.heap.size, 2, none⟩) 32 32] 43) = Wax2x3x7x11 at *
    generalize Wax2x3x7.heap.size = gp at *
    have G1 := Lib.hid qG1
    have SM := Lib.hid qSM
    have Sa := Lib.hid qSa
    have Sb := Lib.hid qSb
    have GP := Lib.hid qGP
    clear qG1 qSM qSa qSb qGP
    refine wpAnyH_ready (rs := [12]) (by kernel_rfl) (by simp) ?_
    refine' (AllReadyH.cons ?hoc12ax2x3x7x11 (fun K hK => ?stc12ax2x3x7x11) AllReadyH.nil)
    case hoc12ax2x3x7x11 => (simp only [List.getElem?_toArray, List.getElem?_cons_succ, List.getElem?_cons_zero]; rfl)
    go_simp
    refine (VA.out Wax2x3x7x11 _ _ _ GP.out Sa.out Sb.out SM.out).mono ?_
    rintro e Wax2x3x7x11x12 ⟨rfl, hb⟩
    have G1 := Lib.hid ((hb.block _ (blk_lt G1.out)).trans G1.out)
    have SM := Lib.hid (SM.out.below hb)
    have Sa := Lib.hid (Sa.out.below hb)
    have Sb := Lib.hid (Sb.out.below hb)
    have GP := Lib.hid ((hb.block _ (blk_lt GP.out)).trans GP.out)
    go_wp2_with fail
    refine hK.out _ _ (⟨hS.1.trans (hb.mono hS.1.size), (hb.block _ (blk_lt hS.2)).trans hS.2⟩) (fun hHeld => ?_)
    clear hK K
    try simp only [Act.put, List.setIfInBounds_toArray, List.set_cons_succ, List.set_cons_zero]
    clear hS
    have hS := hHeld
    clear hHeld
    clear hb
    refine wpAnyH_ready (rs := [13]) (by kernel_rfl) (by simp) ?_
    refine' (AllReadyH.cons ?hoc13ax2x3x7x11x12 (fun K hK => ?stc13ax2x3x7x11x12) AllReadyH.nil)
    case hoc13ax2x3x7x11x12 => (simp only [List.getElem?_toArray, List.getElem?_cons_succ, List.getElem?_cons_zero]; rfl)
    clear Sa Sb SM GP
    refine step_store_row rfl 38 (.tmp 2) (.tmp 26) rfl (w.heap.size + 1) C rfl rfl 38 _ G1.out IZ.out SZ.out OC.out ?_
    refine hK.out _ _ (⟨hS.1.trans (below_row _ _ (by omega)), by rw [setRow_other _ _ _ _ (show w.heap.size ≠ (w.heap.size + 1) from (by omega))]; exact hS.2⟩) (fun hHeld => ?_)
    clear hK K
    simp only [Act.put]
    have qG1 := setRow_heap _ (w.heap.size + 1) _ C _ _ G1.out
    clear hS
    have hS := hHeld
    clear hHeld
    clear G1
    generalize Wax2x3x7x11x12.setRow (w.heap.size + 1) C = Wax2x3x7x11x12x13 at *
    have G1 := Lib.hid qG1
    clear qG1
    refine' wpAnyH_take (i := 14) ?h1x14ax2x3x7x11x12x13 ?hsx14ax2x3x7x11x12x13 ?hfx14ax2x3x7x11x12x13 ?hrx14ax2x3x7x11x12x13 ?hQx14ax2x3x7x11x12x13 (Or.inl ⟨?hwx14ax2x3x7x11x12x13, ?hyx14ax2x3x7x11x12x13⟩) hS ?restx14ax2x3x7x11x12x13
    case h1x14ax2x3x7x11x12x13 => (simp only [List.getElem?_toArray, List.getElem?_cons_succ, List.getElem?_cons_zero]; rfl)
    case hsx14ax2x3x7x11x12x13 => kernel_rfl
    case hfx14ax2x3x7x11x12x13 => kernel_rfl
    case hrx14ax2x3x7x11x12x13 => kernel_rfl
    case hQx14ax2x3x7x11x12x13 => exact fun _ _ _ h => h
    case hwx14ax2x3x7x11x12x13 => rfl
    case hyx14ax2x3x7x11x12x13 =>
      intro W hW
      go_simp
      try with_reducible rfl
    simp only [Act.put, List.setIfInBounds_toArray, List.set_cons_succ, List.set_cons_zero]
    refine wpAnyH_done (by kernel_rfl) ?_ _
    go_wp2_with fail
    exact bodyPost_ret (v := .tuple #[.agg C, .int .i64 0]) (results_cell_tmp Try.results26 _ _ (w.heap.size + 1) 38 C (0, 0) _ rfl G1.out U38.out rfl IZ.out) rfl (YES.out _ hS.1)
  | false =>
    rw [hh] at c0 C0 DI YES
    have eq := EQ.out hh
    clear EQ
    go_enter Try.func26, Try.ntmps26
    go_upto_region 1 with (fail)
    rw [← HW0.out]
    go_upto_region 3 with (first
      | (refine wpList_mid_met rfl 35 (.tmp 8) rfl w.heap.size 1 rfl R _ RT.out Try.underlying35 rfl IR.out ?_)
      | (refine wpList_blank_met rfl 35 rfl (B35.out _) ?_))
    refine wp_region_held_drew (S := fun W => Below w.heap.size w W ∧ W.heap[w.heap.size]? = some (.cells K 55 (0, 0))) (by kernel_rfl) (⟨BE.out.drew, G0.out⟩) (fun hS => ?_)
    have hb0 : Below W0.heap.size W0 W0.drew := (Below.refl _ _).drew
    have qG1 := (hb0.block _ (blk_lt G1.out)).trans G1.out
    have qSM := SM.out.below hb0
    clear hb0 G1 SM
    generalize W0.drew = Wbs at hS qG1 qSM ⊢
    have G1 := Lib.hid qG1
    have SM := Lib.hid qSM
    clear qG1 qSM
    refine' wpAnyH_take (i := 0) ?h1x0b ?hsx0b ?hfx0b ?hrx0b ?hQx0b (Or.inl ⟨?hwx0b, ?hyx0b⟩) hS ?restx0b
    case h1x0b => (simp only [List.getElem?_toArray, List.getElem?_cons_zero]; rfl)
    case hsx0b => kernel_rfl
    case hfx0b => kernel_rfl
    case hrx0b => kernel_rfl
    case hQx0b => exact fun _ _ _ h => h
    case hwx0b => rfl
    case hyx0b =>
      intro W hW
      go_simp
      try with_reducible rfl
    simp only [Act.put, List.setIfInBounds_toArray, List.set_cons_succ, List.set_cons_zero]
    refine' wpAnyH_take (i := 4) ?h1x4b ?hsx4b ?hfx4b ?hrx4b ?hQx4b (Or.inl ⟨?hwx4b, ?hyx4b⟩) hS ?restx4b
    case h1x4b => (simp only [List.getElem?_toArray, List.getElem?_cons_succ, List.getElem?_cons_zero]; rfl)
    case hsx4b => kernel_rfl
    case hfx4b => kernel_rfl
    case hrx4b => kernel_rfl
    case hQx4b => exact fun _ _ _ h => h
    case hwx4b => rfl
    case hyx4b =>
      intro W hW
      go_simp
      try with_reducible rfl
    simp only [Act.put, List.setIfInBounds_toArray, List.set_cons_succ, List.set_cons_zero]
    refine' wpAnyH_take (i := 8) ?h1x8b ?hsx8b ?hfx8b ?hrx8b ?hQx8b (Or.inl ⟨?hwx8b, ?hyx8b⟩) hS ?restx8b
    case h1x8b => (simp only [List.getElem?_toArray, List.getElem?_cons_succ, List.getElem?_cons_zero]; rfl)
    case hsx8b => kernel_rfl
    case hfx8b => kernel_rfl
    case hrx8b => kernel_rfl
    case hQx8b => exact fun _ _ _ h => h
    case hwx8b => rfl
    case hyx8b =>
      intro W hW
      go_simp
      try with_reducible rfl
    simp only [Act.put, List.setIfInBounds_toArray, List.set_cons_succ, List.set_cons_zero]
    refine' wpAnyH_take (i := 1) ?h1x1b ?hsx1b ?hfx1b ?hrx1b ?hQx1b (Or.inl ⟨?hwx1b, ?hyx1b⟩) hS ?restx1b
    case h1x1b => (simp only [List.getElem?_toArray, List.getElem?_cons_succ, List.getElem?_cons_zero]; rfl)
    case hsx1b => kernel_rfl
    case hfx1b => kernel_rfl
    case hrx1b => kernel_rfl
    case hQx1b => exact fun _ _ _ h => h
    case hwx1b => rfl
    case hyx1b =>
      intro W hW
      have dd := C0.out _ hW.2
      go_simp
      try with_reducible rfl
    simp only [Act.put, List.setIfInBounds_toArray, List.set_cons_succ, List.set_cons_zero]
    refine' wpAnyH_take (i := 5) ?h1x5b ?hsx5b ?hfx5b ?hrx5b ?hQx5b (Or.inl ⟨?hwx5b, ?hyx5b⟩) hS ?restx5b
    case h1x5b => (simp only [List.getElem?_toArray, List.getElem?_cons_succ, List.getElem?_cons_zero]; rfl)
    case hsx5b => kernel_rfl
    case hfx5b => kernel_rfl
    case hrx5b => kernel_rfl
    case hQx5b => exact fun _ _ _ h => h
    case hwx5b => rfl
    case hyx5b =>
      intro W hW
      go_simp
      try with_reducible rfl
    simp only [Act.put, List.setIfInBounds_toArray, List.set_cons_succ, List.set_cons_zero]
    refine' wpAnyH_take (i := 9) ?h1x9b ?hsx9b ?hfx9b ?hrx9b ?hQx9b (Or.inl ⟨?hwx9b, ?hyx9b⟩) hS ?restx9b
    case h1x9b => (simp only [List.getElem?_toArray, List.getElem?_cons_succ, List.getElem?_cons_zero]; rfl)
    case hsx9b => kernel_rfl
    case hfx9b => kernel_rfl
    case hrx9b => kernel_rfl
    case hQx9b => exact fun _ _ _ h => h
    case hwx9b => rfl
    case hyx9b =>
      intro W hW
      go_simp
      try with_reducible rfl
    simp only [Act.put, List.setIfInBounds_toArray, List.set_cons_succ, List.set_cons_zero]
    refine' wpAnyH_take (i := 6) ?h1x6b ?hsx6b ?hfx6b ?hrx6b ?hQx6b (Or.inl ⟨?hwx6b, ?hyx6b⟩) hS ?restx6b
    case h1x6b => (simp only [List.getElem?_toArray, List.getElem?_cons_succ, List.getElem?_cons_zero]; rfl)
    case hsx6b => kernel_rfl
    case hfx6b => kernel_rfl
    case hrx6b => kernel_rfl
    case hQx6b => exact fun _ _ _ h => h
    case hwx6b => rfl
    case hyx6b =>
      intro W hW
      have dd := C1.out _ hW.2
      go_simp
      try with_reducible rfl
    simp only [Act.put, List.setIfInBounds_toArray, List.set_cons_succ, List.set_cons_zero]
    refine' wpAnyH_take (i := 10) ?h1x10b ?hsx10b ?hfx10b ?hrx10b ?hQx10b (Or.inl ⟨?hwx10b, ?hyx10b⟩) hS ?restx10b
    case h1x10b => (simp only [List.getElem?_toArray, List.getElem?_cons_succ, List.getElem?_cons_zero]; rfl)
    case hsx10b => kernel_rfl
    case hfx10b => kernel_rfl
    case hrx10b => kernel_rfl
    case hQx10b => exact fun _ _ _ h => h
    case hwx10b => rfl
    case hyx10b =>
      intro W hW
      go_simp
      try with_reducible rfl
    simp only [Act.put, List.setIfInBounds_toArray, List.set_cons_succ, List.set_cons_zero]
    refine wpAnyH_ready (rs := [2]) (by kernel_rfl) (by simp) ?_
    refine' (AllReadyH.cons ?hoc2b (fun K hK => ?stc2b) AllReadyH.nil)
    case hoc2b => (simp only [List.getElem?_toArray, List.getElem?_cons_succ, List.getElem?_cons_zero]; rfl)
    go_simp
    refine (DI.out Wbs).mono ?_
    rintro e w' ⟨rfl, rfl⟩
    go_wp2_with fail
    refine hK.out _ _ hS (fun hHeld => ?_)
    clear hK K
    try simp only [Act.put, List.setIfInBounds_toArray, List.set_cons_succ, List.set_cons_zero]
    clear hS
    have hS := hHeld
    clear hHeld
    refine wpAnyH_ready (rs := [3]) (by kernel_rfl) (by simp) ?_
    refine' (AllReadyH.cons ?hoc3bx2 (fun K hK => ?stc3bx2) AllReadyH.nil)
    case hoc3bx2 => (simp only [List.getElem?_toArray, List.getElem?_cons_succ, List.getElem?_cons_zero]; rfl)
    go_simp
    refine (PD.out Wbs).mono ?_
    rintro e Wbx2x3 ⟨ga, rfl, hs, hb, hn⟩
    have G1 := Lib.hid ((hb.block _ (blk_lt G1.out)).trans G1.out)
    have SM := Lib.hid (SM.out.below hb)
    have Sa := Lib.hid hs
    clear hs hn
    go_wp2_with fail
    refine hK.out _ _ (⟨hS.1.trans (hb.mono hS.1.size), (hb.block _ (blk_lt hS.2)).trans hS.2⟩) (fun hHeld => ?_)
    clear hK K
    try simp only [Act.put, List.setIfInBounds_toArray, List.set_cons_succ, List.set_cons_zero]
    clear hS
    have hS := hHeld
    clear hHeld
    clear hb
    refine wpAnyH_ready (rs := [7]) (by kernel_rfl) (by simp) ?_
    refine' (AllReadyH.cons ?hoc7bx2x3 (fun K hK => ?stc7bx2x3) AllReadyH.nil)
    case hoc7bx2x3 => (simp only [List.getElem?_toArray, List.getElem?_cons_succ, List.getElem?_cons_zero]; rfl)
    go_simp
    refine (PS.out Wbx2x3).mono ?_
    rintro e Wbx2x3x7 ⟨gb, rfl, hs, hb, hn⟩
    have G1 := Lib.hid ((hb.block _ (blk_lt G1.out)).trans G1.out)
    have SM := Lib.hid (SM.out.below hb)
    have Sa := Lib.hid (Sa.out.below hb)
    have Sb := Lib.hid hs
    clear hs hn
    go_wp2_with fail
    refine hK.out _ _ (⟨hS.1.trans (hb.mono hS.1.size), (hb.block _ (blk_lt hS.2)).trans hS.2⟩) (fun hHeld => ?_)
    clear hK K
    try simp only [Act.put, List.setIfInBounds_toArray, List.set_cons_succ, List.set_cons_zero]
    clear hS
    have hS := hHeld
    clear hHeld
    clear hb
    refine wpAnyH_ready (rs := [11]) (by kernel_rfl) (by simp) ?_
    refine' (AllReadyH.cons ?hoc11bx2x3x7 (fun K hK => ?stc11bx2x3x7) AllReadyH.nil)
    case hoc11bx2x3x7 => (simp only [List.getElem?_toArray, List.getElem?_cons_succ, List.getElem?_cons_zero]; rfl)
    go_simp
    have hb := (Below.refl Wbx2x3x7.heap.size Wbx2x3x7).alloc (Nat.le_refl _) (.cells #[.slice (some ⟨ga, 0, none⟩) 1 1, .slice (some ⟨gb, 0, none⟩) 4 4, .slice (some ⟨w.heap.size, 2, none⟩) 32 32] 43)
    refine hK.out _ _ (⟨hS.1.trans (hb.mono hS.1.size), (hb.block _ (blk_lt hS.2)).trans hS.2⟩) (fun hHeld => ?_)
    clear hK K
    try simp only [Act.put, List.setIfInBounds_toArray, List.set_cons_succ, List.set_cons_zero]
    have qGP := heap_alloc_new Wbx2x3x7 (.cells #[.slice (some ⟨ga, 0, none⟩) 1 1, .slice (some ⟨gb, 0, none⟩) 4 4, .slice (some ⟨w.heap.size, 2, none⟩) 32 32] 43)
    have hgp := hS.1.size
    have qG1 := (hb.block _ (blk_lt G1.out)).trans G1.out
    have qSM := SM.out.below hb
    have qSa := Sa.out.below hb
    have qSb := Sb.out.below hb
    clear hS
    have hS := hHeld
    clear hHeld
    clear hb
    clear G1 SM Sa Sb
    generalize Wbx2x3x7.alloc (.cells #[.slice (some ⟨ga, 0, none⟩) 1 1, .slice (some ⟨gb, 0, none⟩) 4 4, .slice (some ⟨w.heap.size, 2, none⟩) 32 32] 43) = Wbx2x3x7x11 at *
    generalize Wbx2x3x7.heap.size = gp at *
    have G1 := Lib.hid qG1
    have SM := Lib.hid qSM
    have Sa := Lib.hid qSa
    have Sb := Lib.hid qSb
    have GP := Lib.hid qGP
    clear qG1 qSM qSa qSb qGP
    refine wpAnyH_ready (rs := [12]) (by kernel_rfl) (by simp) ?_
    refine' (AllReadyH.cons ?hoc12bx2x3x7x11 (fun K hK => ?stc12bx2x3x7x11) AllReadyH.nil)
    case hoc12bx2x3x7x11 => (simp only [List.getElem?_toArray, List.getElem?_cons_succ, List.getElem?_cons_zero]; rfl)
    go_simp
    refine (VA.out Wbx2x3x7x11 _ _ _ GP.out Sa.out Sb.out SM.out).mono ?_
    rintro e Wbx2x3x7x11x12 ⟨rfl, hb⟩
    have G1 := Lib.hid ((hb.block _ (blk_lt G1.out)).trans G1.out)
    have SM := Lib.hid (SM.out.below hb)
    have Sa := Lib.hid (Sa.out.below hb)
    have Sb := Lib.hid (Sb.out.below hb)
    have GP := Lib.hid ((hb.block _ (blk_lt GP.out)).trans GP.out)
    go_wp2_with fail
    refine hK.out _ _ (⟨hS.1.trans (hb.mono hS.1.size), (hb.block _ (blk_lt hS.2)).trans hS.2⟩) (fun hHeld => ?_)
    clear hK K
    try simp only [Act.put, List.setIfInBounds_toArray, List.set_cons_succ, List.set_cons_zero]
    clear hS
    have hS := hHeld
    clear hHeld
    clear hb
    refine wpAnyH_ready (rs := [13]) (by kernel_rfl) (by simp) ?_
    refine' (AllReadyH.cons ?hoc13bx2x3x7x11x12 (fun K hK => ?stc13bx2x3x7x11x12) AllReadyH.nil)
    case hoc13bx2x3x7x11x12 => (simp only [List.getElem?_toArray, List.getElem?_cons_succ, List.getElem?_cons_zero]; rfl)
    clear Sa Sb SM GP
    refine step_store_row rfl 38 (.tmp 2) (.tmp 26) rfl (w.heap.size + 1) C rfl rfl 38 _ G1.out IZ.out SZ.out OC.out ?_
    refine hK.out _ _ (⟨hS.1.trans (below_row _ _ (by omega)), by rw [setRow_other _ _ _ _ (show w.heap.size ≠ (w.heap.size + 1) from (by omega))]; exact hS.2⟩) (fun hHeld => ?_)
    clear hK K
    simp only [Act.put]
    have qG1 := setRow_heap _ (w.heap.size + 1) _ C _ _ G1.out
    clear hS
    have hS := hHeld
    clear hHeld
    clear G1
    generalize Wbx2x3x7x11x12.setRow (w.heap.size + 1) C = Wbx2x3x7x11x12x13 at *
    have G1 := Lib.hid qG1
    clear qG1
    refine' wpAnyH_take (i := 14) ?h1x14bx2x3x7x11x12x13 ?hsx14bx2x3x7x11x12x13 ?hfx14bx2x3x7x11x12x13 ?hrx14bx2x3x7x11x12x13 ?hQx14bx2x3x7x11x12x13 (Or.inl ⟨?hwx14bx2x3x7x11x12x13, ?hyx14bx2x3x7x11x12x13⟩) hS ?restx14bx2x3x7x11x12x13
    case h1x14bx2x3x7x11x12x13 => (simp only [List.getElem?_toArray, List.getElem?_cons_succ, List.getElem?_cons_zero]; rfl)
    case hsx14bx2x3x7x11x12x13 => kernel_rfl
    case hfx14bx2x3x7x11x12x13 => kernel_rfl
    case hrx14bx2x3x7x11x12x13 => kernel_rfl
    case hQx14bx2x3x7x11x12x13 => exact fun _ _ _ h => h
    case hwx14bx2x3x7x11x12x13 => rfl
    case hyx14bx2x3x7x11x12x13 =>
      intro W hW
      go_simp
      try with_reducible rfl
    simp only [Act.put, List.setIfInBounds_toArray, List.set_cons_succ, List.set_cons_zero]
    refine wpAnyH_done (by kernel_rfl) ?_ _
    go_wp2_with fail
    exact bodyPost_ret (v := .tuple #[.agg C, .int .i64 0]) (results_cell_tmp Try.results26 _ _ (w.heap.size + 1) 38 C (0, 0) _ rfl G1.out U38.out rfl IZ.out) rfl (YES.out _ hS.1)
theorem writeRoot (h : Bool) (s : Int) (z : List Int) (s0 : 0 ≤ s) (s1 : s ≤ 4294967295) (hz : Byt z) (hl : z.length = 32) (w : World) : Calls Try.prog 26 #[.agg (ocells h s z)] w (WrP w (oMay h s z) (oW h s z)) := by
  by_cases hm : oMay h s z
  · exact writeRoot_yes h s z s0 s1 hz hl hm w
  · exact writeRoot_no h s z hz hl hm w
end Go.Proofs.Ytbhkhkiidaemcaa
