/-
  Contracts of the functions that the statements of package xts go through: Turn and Back of a cipher, of one that is nil, and of bytes that are no sector. Condition: the numbers are bytes.
-/
import Derived.Test.YtpkeofioobmmoaaDoorAeXtsD
namespace Go.Proofs.YtpkeofioobmmoaaDoor.ae
open Go.RowKit
set_option maxRecDepth 100000 in
theorem XIat.cell0 {W : World} {g : Nat} {F1 F2 : List Nat} (h : XIat W g F1 F2) : ∃ g1, W.cell? ⟨g, 0, none⟩ = some (.pointer (some ⟨g1, 0, none⟩)) := by
  obtain ⟨g1, g2, h0, _⟩ := h
  exact ⟨g1, cell_of_row _ _ 0 _ _ _ h0⟩
set_option maxRecDepth 100000 in
theorem thrTNo (v : Value) (tw : List Nat) (x : Option Addr) (L cap : Nat) (hm : L ≤ 9223372036854775807) (h : L = 0 ∨ L % 16 ≠ 0 ∨ 65536 < L) (p : Value) (w : World) :
    Calls Tryd.prog 51 #[p, v, .agg (ncells tw), .slice x L cap] w fun e w' => e = .returned (.tuple #[.slice none 0 0, .int .i64 3]) ∧ Below w.heap.size w w' := by
  have IS : Hid (∀ W, Calls Tryd.prog 74 #[.slice x L cap] W fun e w' => e = .returned (.bool false) ∧ W = w') := fun W => isSecNo x L cap hm h W
  clear hm h
  go_enter Tryd.func51, Tryd.ntmps51
  go_wp2_with fail
  refine (IS.out _).mono ?_
  rintro e w' ⟨rfl, rfl⟩
  go_wp2_with fail
  go_ret2
  exact ⟨rfl, (Below.refl _ _).alloc (Nat.le_refl _) _⟩
set_option maxRecDepth 100000 in
set_option maxHeartbeats 4000000 in
theorem turnX (k1 k2 tw b : List Nat) (hk1 : Bts 32 k1) (hk2 : Bts 32 k2) (htw : Bts 16 tw) (g L n : Nat) (x : Option Addr) (cap : Nat) (w : World) (hx : XIat w g (flat k1) (flat k2)) (hs : Sees w (.slice x L cap) b) (hL : L = b.length) (hn : L = 16 * n) (h0 : 0 < n) (h4 : n ≤ 4096) :
    Calls Tryd.prog 34 #[.pointer (some ⟨g, 0, none⟩), .agg (ncells tw), .slice x L cap] w (SecP w L (sct (enc k1) (enc k2 tw) b n)) := by
  obtain ⟨g1, g2, hx0, hx1, hx2⟩ := hx
  have LG0 := Lib.hid (blk_lt hx0)
  have TL := Lib.hid htw.1
  obtain ⟨W0, hW0⟩ : ∃ W0, W0 = w.alloc (.cells (ncells tw) 91) := ⟨_, rfl⟩
  have HB : Hid (Below w.heap.size w W0) := by rw [hW0]; exact (Below.refl _ _).alloc (Nat.le_refl _) _
  have G0 : Hid (W0.heap[w.heap.size]? = some (.cells (ncells tw) 91 (0, 0))) := by show _ = _; rw [hW0]; exact heap_alloc_new w _
  have HW0 := Lib.hid hW0
  have HX : Hid (∀ W, Below w.heap.size w W → Calls Tryd.prog 51 #[.pointer (some ⟨g, 0, none⟩), .func (.func 52) #[.pointer (some ⟨g1, 0, none⟩)] #[], .agg (ncells tw), .slice x L cap] W (SecP W L (sct (enc k1) (enc k2 tw) b n))) :=
    fun W hb => thrT k1 k2 tw b hk1 hk2 htw g g1 g2 L n x cap W ((hb.block _ (blk_lt hx0)).trans hx0) ((hb.block _ (blk_lt hx1)).trans hx1) ((hb.block _ (blk_lt hx2)).trans hx2) (hs.below hb) hL hn h0 h4
  have CX : Hid (W0.cell? ⟨g, 0, none⟩ = some (.pointer (some ⟨g1, 0, none⟩))) := (HB.out.cell (p := ⟨g, 0, none⟩) LG0.out).trans (cell_of_row _ _ 0 _ _ _ hx0)
  have LG : Hid (g < W0.heap.size) := Nat.lt_of_lt_of_le LG0.out HB.out.size
  generalize sct (enc k1) (enc k2 tw) b n = J at *
  clear hx0 hx1 hx2 hs hL hn h0 h4 hk1 hk2 htw hW0
  go_enter Tryd.func34, Tryd.ntmps34
  have cc : (w.alloc (.cells (ncells tw) 91)).cell? ⟨g, 0, none⟩ = some (.pointer (some ⟨g1, 0, none⟩)) := by rw [← HW0.out]; exact CX.out
  go_wp2_with fail
  clear cc
  rw [← HW0.out]
  refine wp_region_held_drew (S := fun W => Below W0.heap.size W0 W) (by kernel_rfl) (Below.refl _ _).drew (fun hS => ?_)
  refine' wpAnyH_take (i := 0) ?h1x0p ?hsx0p ?hfx0p ?hrx0p ?hQx0p (Or.inl ⟨?hwx0p, ?hyx0p⟩) hS ?restx0p
  case h1x0p => (simp only [List.getElem?_toArray, List.getElem?_cons_zero]; rfl)
  case hsx0p => kernel_rfl
  case hfx0p => kernel_rfl
  case hrx0p => kernel_rfl
  case hQx0p => exact fun _ _ _ h => h
  case hwx0p => rfl
  case hyx0p =>
    intro W hW
    go_simp
    try with_reducible rfl
  simp only [Act.put, List.setIfInBounds_toArray, List.set_cons_succ, List.set_cons_zero]
  refine' wpAnyH_take (i := 1) ?h1x1p ?hsx1p ?hfx1p ?hrx1p ?hQx1p (Or.inl ⟨?hwx1p, ?hyx1p⟩) hS ?restx1p
  case h1x1p => (simp only [List.getElem?_toArray, List.getElem?_cons_succ, List.getElem?_cons_zero]; rfl)
  case hsx1p => kernel_rfl
  case hfx1p => kernel_rfl
  case hrx1p => kernel_rfl
  case hQx1p => exact fun _ _ _ h => h
  case hwx1p => rfl
  case hyx1p =>
    intro W hW
    go_simp
    try with_reducible rfl
  simp only [Act.put, List.setIfInBounds_toArray, List.set_cons_succ, List.set_cons_zero]
  refine' wpAnyH_take (i := 2) ?h1x2p ?hsx2p ?hfx2p ?hrx2p ?hQx2p (Or.inl ⟨?hwx2p, ?hyx2p⟩) hS ?restx2p
  case h1x2p => (simp only [List.getElem?_toArray, List.getElem?_cons_succ, List.getElem?_cons_zero]; rfl)
  case hsx2p => kernel_rfl
  case hfx2p => kernel_rfl
  case hrx2p => kernel_rfl
  case hQx2p => exact fun _ _ _ h => h
  case hwx2p => rfl
  case hyx2p =>
    intro W hW
    go_simp
    try with_reducible rfl
  simp only [Act.put, List.setIfInBounds_toArray, List.set_cons_succ, List.set_cons_zero]
  refine' wpAnyH_take (i := 3) ?h1x3p ?hsx3p ?hfx3p ?hrx3p ?hQx3p (Or.inl ⟨?hwx3p, ?hyx3p⟩) hS ?restx3p
  case h1x3p => (simp only [List.getElem?_toArray, List.getElem?_cons_succ, List.getElem?_cons_zero]; rfl)
  case hsx3p => kernel_rfl
  case hfx3p => kernel_rfl
  case hrx3p => kernel_rfl
  case hQx3p => exact fun _ _ _ h => h
  case hwx3p => rfl
  case hyx3p =>
    intro W hW
    go_simp
    try with_reducible rfl
  simp only [Act.put, List.setIfInBounds_toArray, List.set_cons_succ, List.set_cons_zero]
  refine' wpAnyH_take (i := 4) ?h1x4p ?hsx4p ?hfx4p ?hrx4p ?hQx4p (Or.inl ⟨?hwx4p, ?hyx4p⟩) hS ?restx4p
  case h1x4p => (simp only [List.getElem?_toArray, List.getElem?_cons_succ, List.getElem?_cons_zero]; rfl)
  case hsx4p => kernel_rfl
  case hfx4p => kernel_rfl
  case hrx4p => kernel_rfl
  case hQx4p => exact fun _ _ _ h => h
  case hwx4p => rfl
  case hyx4p =>
    intro W hW
    have dd := (hW.cell (p := ⟨g, 0, none⟩) LG.out).trans CX.out
    go_simp
    try with_reducible rfl
  simp only [Act.put, List.setIfInBounds_toArray, List.set_cons_succ, List.set_cons_zero]
  refine' wpAnyH_take (i := 5) ?h1x5p ?hsx5p ?hfx5p ?hrx5p ?hQx5p (Or.inl ⟨?hwx5p, ?hyx5p⟩) hS ?restx5p
  case h1x5p => (simp only [List.getElem?_toArray, List.getElem?_cons_succ, List.getElem?_cons_zero]; rfl)
  case hsx5p => kernel_rfl
  case hfx5p => kernel_rfl
  case hrx5p => kernel_rfl
  case hQx5p => exact fun _ _ _ h => h
  case hwx5p => rfl
  case hyx5p =>
    intro W hW
    go_simp
    try with_reducible rfl
  simp only [Act.put, List.setIfInBounds_toArray, List.set_cons_succ, List.set_cons_zero]
  refine' wpAnyH_take (i := 6) ?h1x6p ?hsx6p ?hfx6p ?hrx6p ?hQx6p (yieldsIf_load_at ?hwx6p 91 (.tmp 4) ?hopx6p w.heap.size 0 rfl (ncells tw) _ (fun W hW => range_row ((hW.block _ (blk_lt G0.out)).trans G0.out)) Tryd.underlying91 rfl ?hix6p) hS ?restx6p
  case h1x6p => (simp only [List.getElem?_toArray, List.getElem?_cons_succ, List.getElem?_cons_zero]; rfl)
  case hopx6p => rfl
  case hsx6p => kernel_rfl
  case hfx6p => kernel_rfl
  case hrx6p => kernel_rfl
  case hQx6p => exact fun _ _ _ h => h
  case hwx6p => rfl
  case hix6p => exact (i47 TL.out)
  simp only [Act.put, List.setIfInBounds_toArray, List.set_cons_succ, List.set_cons_zero]
  refine' wpAnyH_take (i := 7) ?h1x7p ?hsx7p ?hfx7p ?hrx7p ?hQx7p (Or.inl ⟨?hwx7p, ?hyx7p⟩) hS ?restx7p
  case h1x7p => (simp only [List.getElem?_toArray, List.getElem?_cons_succ, List.getElem?_cons_zero]; rfl)
  case hsx7p => kernel_rfl
  case hfx7p => kernel_rfl
  case hrx7p => kernel_rfl
  case hQx7p => exact fun _ _ _ h => h
  case hwx7p => rfl
  case hyx7p =>
    intro W hW
    go_simp
    try with_reducible rfl
  simp only [Act.put, List.setIfInBounds_toArray, List.set_cons_succ, List.set_cons_zero]
  refine wpAnyH_ready (rs := [8]) (by kernel_rfl) (by simp) ?_
  refine' AllReadyH.cons ?hoc8p (fun K hK => ?stc8p) AllReadyH.nil
  case hoc8p => (simp only [List.getElem?_toArray, List.getElem?_cons_succ, List.getElem?_cons_zero]; rfl)
  go_simp
  refine (HX.out _ (HB.out.trans (hS.mono HB.out.size))).mono ?_
  rintro e w3 ⟨q, rfl, hq, hr, hb⟩
  have hWq := Lib.hid (Nat.le_trans hS.size hq)
  clear hq
  go_wp2_with fail
  refine hK.out _ _ (hS.trans (hb.mono hS.size)) (fun hHeld => ?_)
  clear hK K
  try simp only [Act.put, List.setIfInBounds_toArray, List.set_cons_succ, List.set_cons_zero]
  clear hS hb
  have hS := hHeld
  clear hHeld
  refine' wpAnyH_take (i := 9) ?h1x9p ?hsx9p ?hfx9p ?hrx9p ?hQx9p (Or.inl ⟨?hwx9p, ?hyx9p⟩) hS ?restx9p
  case h1x9p => (simp only [List.getElem?_toArray, List.getElem?_cons_succ, List.getElem?_cons_zero]; rfl)
  case hsx9p => kernel_rfl
  case hfx9p => kernel_rfl
  case hrx9p => kernel_rfl
  case hQx9p => exact fun _ _ _ h => h
  case hwx9p => rfl
  case hyx9p =>
    intro W hW
    go_simp
    try with_reducible rfl
  simp only [Act.put, List.setIfInBounds_toArray, List.set_cons_succ, List.set_cons_zero]
  refine' wpAnyH_take (i := 10) ?h1x10p ?hsx10p ?hfx10p ?hrx10p ?hQx10p (Or.inl ⟨?hwx10p, ?hyx10p⟩) hS ?restx10p
  case h1x10p => (simp only [List.getElem?_toArray, List.getElem?_cons_succ, List.getElem?_cons_zero]; rfl)
  case hsx10p => kernel_rfl
  case hfx10p => kernel_rfl
  case hrx10p => kernel_rfl
  case hQx10p => exact fun _ _ _ h => h
  case hwx10p => rfl
  case hyx10p =>
    intro W hW
    go_simp
    try with_reducible rfl
  simp only [Act.put, List.setIfInBounds_toArray, List.set_cons_succ, List.set_cons_zero]
  refine' wpAnyH_take (i := 11) ?h1x11p ?hsx11p ?hfx11p ?hrx11p ?hQx11p (Or.inl ⟨?hwx11p, ?hyx11p⟩) hS ?restx11p
  case h1x11p => (simp only [List.getElem?_toArray, List.getElem?_cons_succ, List.getElem?_cons_zero]; rfl)
  case hsx11p => kernel_rfl
  case hfx11p => kernel_rfl
  case hrx11p => kernel_rfl
  case hQx11p => exact fun _ _ _ h => h
  case hwx11p => rfl
  case hyx11p =>
    intro W hW
    go_simp
    try with_reducible rfl
  simp only [Act.put, List.setIfInBounds_toArray, List.set_cons_succ, List.set_cons_zero]
  refine' wpAnyH_take (i := 12) ?h1x12p ?hsx12p ?hfx12p ?hrx12p ?hQx12p (Or.inl ⟨?hwx12p, ?hyx12p⟩) hS ?restx12p
  case h1x12p => (simp only [List.getElem?_toArray, List.getElem?_cons_succ, List.getElem?_cons_zero]; rfl)
  case hsx12p => kernel_rfl
  case hfx12p => kernel_rfl
  case hrx12p => kernel_rfl
  case hQx12p => exact fun _ _ _ h => h
  case hwx12p => rfl
  case hyx12p =>
    intro W hW
    go_simp
    try with_reducible rfl
  simp only [Act.put, List.setIfInBounds_toArray, List.set_cons_succ, List.set_cons_zero]
  refine wpAnyH_done (by kernel_rfl) ?_ _
  go_wp2_with fail
  go_ret2
  have hz0 := HB.out.size
  exact ⟨q, rfl, by have := hWq.out; omega, hr, HB.out.trans (hS.mono HB.out.size)⟩
set_option maxRecDepth 100000 in
set_option maxHeartbeats 4000000 in
theorem turnXNo (F1 F2 tw : List Nat) (htw : Bts 16 tw) (g L : Nat) (x : Option Addr) (cap : Nat) (w : World) (hx : XIat w g F1 F2) (hm : L ≤ 9223372036854775807) (h : L = 0 ∨ L % 16 ≠ 0 ∨ 65536 < L) :
    Calls Tryd.prog 34 #[.pointer (some ⟨g, 0, none⟩), .agg (ncells tw), .slice x L cap] w fun e w' => e = .returned (.tuple #[.slice none 0 0, .int .i64 3]) ∧ Below w.heap.size w w' := by
  obtain ⟨g1, g2, hx0, hx1, hx2⟩ := hx
  have LG0 := Lib.hid (blk_lt hx0)
  have TL := Lib.hid htw.1
  obtain ⟨W0, hW0⟩ : ∃ W0, W0 = w.alloc (.cells (ncells tw) 91) := ⟨_, rfl⟩
  have HB : Hid (Below w.heap.size w W0) := by rw [hW0]; exact (Below.refl _ _).alloc (Nat.le_refl _) _
  have G0 : Hid (W0.heap[w.heap.size]? = some (.cells (ncells tw) 91 (0, 0))) := by show _ = _; rw [hW0]; exact heap_alloc_new w _
  have HW0 := Lib.hid hW0
  have HX : Hid (∀ W v p, Calls Tryd.prog 51 #[p, v, .agg (ncells tw), .slice x L cap] W fun e w' => e = .returned (.tuple #[.slice none 0 0, .int .i64 3]) ∧ Below W.heap.size W w') := fun W v p => thrTNo v tw x L cap hm h p W
  have CX : Hid (W0.cell? ⟨g, 0, none⟩ = some (.pointer (some ⟨g1, 0, none⟩))) := (HB.out.cell (p := ⟨g, 0, none⟩) LG0.out).trans (cell_of_row _ _ 0 _ _ _ hx0)
  have LG : Hid (g < W0.heap.size) := Nat.lt_of_lt_of_le LG0.out HB.out.size
  clear hx0 hx1 hx2 hm h htw hW0
  go_enter Tryd.func34, Tryd.ntmps34
  have cc : (w.alloc (.cells (ncells tw) 91)).cell? ⟨g, 0, none⟩ = some (.pointer (some ⟨g1, 0, none⟩)) := by rw [← HW0.out]; exact CX.out
  go_wp2_with fail
  clear cc
  rw [← HW0.out]
  refine wp_region_held_drew (S := fun W => Below W0.heap.size W0 W) (by kernel_rfl) (Below.refl _ _).drew (fun hS => ?_)
  refine' wpAnyH_take (i := 0) ?h1x0p ?hsx0p ?hfx0p ?hrx0p ?hQx0p (Or.inl ⟨?hwx0p, ?hyx0p⟩) hS ?restx0p
  case h1x0p => (simp only [List.getElem?_toArray, List.getElem?_cons_zero]; rfl)
  case hsx0p => kernel_rfl
  case hfx0p => kernel_rfl
  case hrx0p => kernel_rfl
  case hQx0p => exact fun _ _ _ h => h
  case hwx0p => rfl
  case hyx0p =>
    intro W hW
    go_simp
    try with_reducible rfl
  simp only [Act.put, List.setIfInBounds_toArray, List.set_cons_succ, List.set_cons_zero]
  refine' wpAnyH_take (i := 1) ?h1x1p ?hsx1p ?hfx1p ?hrx1p ?hQx1p (Or.inl ⟨?hwx1p, ?hyx1p⟩) hS ?restx1p
  case h1x1p => (simp only [List.getElem?_toArray, List.getElem?_cons_succ, List.getElem?_cons_zero]; rfl)
  case hsx1p => kernel_rfl
  case hfx1p => kernel_rfl
  case hrx1p => kernel_rfl
  case hQx1p => exact fun _ _ _ h => h
  case hwx1p => rfl
  case hyx1p =>
    intro W hW
    go_simp
    try with_reducible rfl
  simp only [Act.put, List.setIfInBounds_toArray, List.set_cons_succ, List.set_cons_zero]
  refine' wpAnyH_take (i := 2) ?h1x2p ?hsx2p ?hfx2p ?hrx2p ?hQx2p (Or.inl ⟨?hwx2p, ?hyx2p⟩) hS ?restx2p
  case h1x2p => (simp only [List.getElem?_toArray, List.getElem?_cons_succ, List.getElem?_cons_zero]; rfl)
  case hsx2p => kernel_rfl
  case hfx2p => kernel_rfl
  case hrx2p => kernel_rfl
  case hQx2p => exact fun _ _ _ h => h
  case hwx2p => rfl
  case hyx2p =>
    intro W hW
    go_simp
    try with_reducible rfl
  simp only [Act.put, List.setIfInBounds_toArray, List.set_cons_succ, List.set_cons_zero]
  refine' wpAnyH_take (i := 3) ?h1x3p ?hsx3p ?hfx3p ?hrx3p ?hQx3p (Or.inl ⟨?hwx3p, ?hyx3p⟩) hS ?restx3p
  case h1x3p => (simp only [List.getElem?_toArray, List.getElem?_cons_succ, List.getElem?_cons_zero]; rfl)
  case hsx3p => kernel_rfl
  case hfx3p => kernel_rfl
  case hrx3p => kernel_rfl
  case hQx3p => exact fun _ _ _ h => h
  case hwx3p => rfl
  case hyx3p =>
    intro W hW
    go_simp
    try with_reducible rfl
  simp only [Act.put, List.setIfInBounds_toArray, List.set_cons_succ, List.set_cons_zero]
  refine' wpAnyH_take (i := 4) ?h1x4p ?hsx4p ?hfx4p ?hrx4p ?hQx4p (Or.inl ⟨?hwx4p, ?hyx4p⟩) hS ?restx4p
  case h1x4p => (simp only [List.getElem?_toArray, List.getElem?_cons_succ, List.getElem?_cons_zero]; rfl)
  case hsx4p => kernel_rfl
  case hfx4p => kernel_rfl
  case hrx4p => kernel_rfl
  case hQx4p => exact fun _ _ _ h => h
  case hwx4p => rfl
  case hyx4p =>
    intro W hW
    have dd := (hW.cell (p := ⟨g, 0, none⟩) LG.out).trans CX.out
    go_simp
    try with_reducible rfl
  simp only [Act.put, List.setIfInBounds_toArray, List.set_cons_succ, List.set_cons_zero]
  refine' wpAnyH_take (i := 5) ?h1x5p ?hsx5p ?hfx5p ?hrx5p ?hQx5p (Or.inl ⟨?hwx5p, ?hyx5p⟩) hS ?restx5p
  case h1x5p => (simp only [List.getElem?_toArray, List.getElem?_cons_succ, List.getElem?_cons_zero]; rfl)
  case hsx5p => kernel_rfl
  case hfx5p => kernel_rfl
  case hrx5p => kernel_rfl
  case hQx5p => exact fun _ _ _ h => h
  case hwx5p => rfl
  case hyx5p =>
    intro W hW
    go_simp
    try with_reducible rfl
  simp only [Act.put, List.setIfInBounds_toArray, List.set_cons_succ, List.set_cons_zero]
  refine' wpAnyH_take (i := 6) ?h1x6p ?hsx6p ?hfx6p ?hrx6p ?hQx6p (yieldsIf_load_at ?hwx6p 91 (.tmp 4) ?hopx6p w.heap.size 0 rfl (ncells tw) _ (fun W hW => range_row ((hW.block _ (blk_lt G0.out)).trans G0.out)) Tryd.underlying91 rfl ?hix6p) hS ?restx6p
  case h1x6p => (simp only [List.getElem?_toArray, List.getElem?_cons_succ, List.getElem?_cons_zero]; rfl)
  case hopx6p => rfl
  case hsx6p => kernel_rfl
  case hfx6p => kernel_rfl
  case hrx6p => kernel_rfl
  case hQx6p => exact fun _ _ _ h => h
  case hwx6p => rfl
  case hix6p => exact (i47 TL.out)
  simp only [Act.put, List.setIfInBounds_toArray, List.set_cons_succ, List.set_cons_zero]
  refine' wpAnyH_take (i := 7) ?h1x7p ?hsx7p ?hfx7p ?hrx7p ?hQx7p (Or.inl ⟨?hwx7p, ?hyx7p⟩) hS ?restx7p
  case h1x7p => (simp only [List.getElem?_toArray, List.getElem?_cons_succ, List.getElem?_cons_zero]; rfl)
  case hsx7p => kernel_rfl
  case hfx7p => kernel_rfl
  case hrx7p => kernel_rfl
  case hQx7p => exact fun _ _ _ h => h
  case hwx7p => rfl
  case hyx7p =>
    intro W hW
    go_simp
    try with_reducible rfl
  simp only [Act.put, List.setIfInBounds_toArray, List.set_cons_succ, List.set_cons_zero]
  refine wpAnyH_ready (rs := [8]) (by kernel_rfl) (by simp) ?_
  refine' AllReadyH.cons ?hoc8p (fun K hK => ?stc8p) AllReadyH.nil
  case hoc8p => (simp only [List.getElem?_toArray, List.getElem?_cons_succ, List.getElem?_cons_zero]; rfl)
  go_simp
  refine (HX.out _ _ _).mono ?_
  rintro e w3 ⟨rfl, hb⟩
  go_wp2_with fail
  refine hK.out _ _ (hS.trans (hb.mono hS.size)) (fun hHeld => ?_)
  clear hK K
  try simp only [Act.put, List.setIfInBounds_toArray, List.set_cons_succ, List.set_cons_zero]
  clear hS hb
  have hS := hHeld
  clear hHeld
  refine' wpAnyH_take (i := 9) ?h1x9p ?hsx9p ?hfx9p ?hrx9p ?hQx9p (Or.inl ⟨?hwx9p, ?hyx9p⟩) hS ?restx9p
  case h1x9p => (simp only [List.getElem?_toArray, List.getElem?_cons_succ, List.getElem?_cons_zero]; rfl)
  case hsx9p => kernel_rfl
  case hfx9p => kernel_rfl
  case hrx9p => kernel_rfl
  case hQx9p => exact fun _ _ _ h => h
  case hwx9p => rfl
  case hyx9p =>
    intro W hW
    go_simp
    try with_reducible rfl
  simp only [Act.put, List.setIfInBounds_toArray, List.set_cons_succ, List.set_cons_zero]
  refine' wpAnyH_take (i := 10) ?h1x10p ?hsx10p ?hfx10p ?hrx10p ?hQx10p (Or.inl ⟨?hwx10p, ?hyx10p⟩) hS ?restx10p
  case h1x10p => (simp only [List.getElem?_toArray, List.getElem?_cons_succ, List.getElem?_cons_zero]; rfl)
  case hsx10p => kernel_rfl
  case hfx10p => kernel_rfl
  case hrx10p => kernel_rfl
  case hQx10p => exact fun _ _ _ h => h
  case hwx10p => rfl
  case hyx10p =>
    intro W hW
    go_simp
    try with_reducible rfl
  simp only [Act.put, List.setIfInBounds_toArray, List.set_cons_succ, List.set_cons_zero]
  refine' wpAnyH_take (i := 11) ?h1x11p ?hsx11p ?hfx11p ?hrx11p ?hQx11p (Or.inl ⟨?hwx11p, ?hyx11p⟩) hS ?restx11p
  case h1x11p => (simp only [List.getElem?_toArray, List.getElem?_cons_succ, List.getElem?_cons_zero]; rfl)
  case hsx11p => kernel_rfl
  case hfx11p => kernel_rfl
  case hrx11p => kernel_rfl
  case hQx11p => exact fun _ _ _ h => h
  case hwx11p => rfl
  case hyx11p =>
    intro W hW
    go_simp
    try with_reducible rfl
  simp only [Act.put, List.setIfInBounds_toArray, List.set_cons_succ, List.set_cons_zero]
  refine' wpAnyH_take (i := 12) ?h1x12p ?hsx12p ?hfx12p ?hrx12p ?hQx12p (Or.inl ⟨?hwx12p, ?hyx12p⟩) hS ?restx12p
  case h1x12p => (simp only [List.getElem?_toArray, List.getElem?_cons_succ, List.getElem?_cons_zero]; rfl)
  case hsx12p => kernel_rfl
  case hfx12p => kernel_rfl
  case hrx12p => kernel_rfl
  case hQx12p => exact fun _ _ _ h => h
  case hwx12p => rfl
  case hyx12p =>
    intro W hW
    go_simp
    try with_reducible rfl
  simp only [Act.put, List.setIfInBounds_toArray, List.set_cons_succ, List.set_cons_zero]
  refine wpAnyH_done (by kernel_rfl) ?_ _
  go_wp2_with fail
  go_ret2
  exact ⟨rfl, HB.out.trans (hS.mono HB.out.size)⟩
set_option maxRecDepth 100000 in
theorem turnXNil (tw : List Nat) (v : Value) (w : World) : Calls Tryd.prog 34 #[.pointer none, .agg (ncells tw), v] w fun e w' => e = .returned (.tuple #[.slice none 0 0, .int .i64 6]) ∧ Below w.heap.size w w' := by
  go_enter Tryd.func34, Tryd.ntmps34
  go_wp2_with fail
  go_ret2
  exact ⟨rfl, (Below.refl _ _).alloc (Nat.le_refl _) _⟩
set_option maxRecDepth 100000 in
set_option maxHeartbeats 4000000 in
theorem backX (k1 k2 tw b : List Nat) (hk1 : Bts 32 k1) (hk2 : Bts 32 k2) (htw : Bts 16 tw) (g L n : Nat) (x : Option Addr) (cap : Nat) (w : World) (hx : XIat w g (flat k1) (flat k2)) (hs : Sees w (.slice x L cap) b) (hL : L = b.length) (hn : L = 16 * n) (h0 : 0 < n) (h4 : n ≤ 4096) :
    Calls Tryd.prog 39 #[.pointer (some ⟨g, 0, none⟩), .agg (ncells tw), .slice x L cap] w (SecP w L (sct (dec k1) (enc k2 tw) b n)) := by
  obtain ⟨g1, g2, hx0, hx1, hx2⟩ := hx
  have LG0 := Lib.hid (blk_lt hx0)
  have TL := Lib.hid htw.1
  obtain ⟨W0, hW0⟩ : ∃ W0, W0 = w.alloc (.cells (ncells tw) 91) := ⟨_, rfl⟩
  have HB : Hid (Below w.heap.size w W0) := by rw [hW0]; exact (Below.refl _ _).alloc (Nat.le_refl _) _
  have G0 : Hid (W0.heap[w.heap.size]? = some (.cells (ncells tw) 91 (0, 0))) := by show _ = _; rw [hW0]; exact heap_alloc_new w _
  have HW0 := Lib.hid hW0
  have HX : Hid (∀ W, Below w.heap.size w W → Calls Tryd.prog 51 #[.pointer (some ⟨g, 0, none⟩), .func (.func 65) #[.pointer (some ⟨g1, 0, none⟩)] #[], .agg (ncells tw), .slice x L cap] W (SecP W L (sct (dec k1) (enc k2 tw) b n))) :=
    fun W hb => thrB k1 k2 tw b hk1 hk2 htw g g1 g2 L n x cap W ((hb.block _ (blk_lt hx0)).trans hx0) ((hb.block _ (blk_lt hx1)).trans hx1) ((hb.block _ (blk_lt hx2)).trans hx2) (hs.below hb) hL hn h0 h4
  have CX : Hid (W0.cell? ⟨g, 0, none⟩ = some (.pointer (some ⟨g1, 0, none⟩))) := (HB.out.cell (p := ⟨g, 0, none⟩) LG0.out).trans (cell_of_row _ _ 0 _ _ _ hx0)
  have LG : Hid (g < W0.heap.size) := Nat.lt_of_lt_of_le LG0.out HB.out.size
  generalize sct (dec k1) (enc k2 tw) b n = J at *
  clear hx0 hx1 hx2 hs hL hn h0 h4 hk1 hk2 htw hW0
  go_enter Tryd.func39, Tryd.ntmps39
  have cc : (w.alloc (.cells (ncells tw) 91)).cell? ⟨g, 0, none⟩ = some (.pointer (some ⟨g1, 0, none⟩)) := by rw [← HW0.out]; exact CX.out
  go_wp2_with fail
  clear cc
  rw [← HW0.out]
  refine wp_region_held_drew (S := fun W => Below W0.heap.size W0 W) (by kernel_rfl) (Below.refl _ _).drew (fun hS => ?_)
  refine' wpAnyH_take (i := 0) ?h1x0p ?hsx0p ?hfx0p ?hrx0p ?hQx0p (Or.inl ⟨?hwx0p, ?hyx0p⟩) hS ?restx0p
  case h1x0p => (simp only [List.getElem?_toArray, List.getElem?_cons_zero]; rfl)
  case hsx0p => kernel_rfl
  case hfx0p => kernel_rfl
  case hrx0p => kernel_rfl
  case hQx0p => exact fun _ _ _ h => h
  case hwx0p => rfl
  case hyx0p =>
    intro W hW
    go_simp
    try with_reducible rfl
  simp only [Act.put, List.setIfInBounds_toArray, List.set_cons_succ, List.set_cons_zero]
  refine' wpAnyH_take (i := 1) ?h1x1p ?hsx1p ?hfx1p ?hrx1p ?hQx1p (Or.inl ⟨?hwx1p, ?hyx1p⟩) hS ?restx1p
  case h1x1p => (simp only [List.getElem?_toArray, List.getElem?_cons_succ, List.getElem?_cons_zero]; rfl)
  case hsx1p => kernel_rfl
  case hfx1p => kernel_rfl
  case hrx1p => kernel_rfl
  case hQx1p => exact fun _ _ _ h => h
  case hwx1p => rfl
  case hyx1p =>
    intro W hW
    go_simp
    try with_reducible rfl
  simp only [Act.put, List.setIfInBounds_toArray, List.set_cons_succ, List.set_cons_zero]
  refine' wpAnyH_take (i := 2) ?h1x2p ?hsx2p ?hfx2p ?hrx2p ?hQx2p (Or.inl ⟨?hwx2p, ?hyx2p⟩) hS ?restx2p
  case h1x2p => (simp only [List.getElem?_toArray, List.getElem?_cons_succ, List.getElem?_cons_zero]; rfl)
  case hsx2p => kernel_rfl
  case hfx2p => kernel_rfl
  case hrx2p => kernel_rfl
  case hQx2p => exact fun _ _ _ h => h
  case hwx2p => rfl
  case hyx2p =>
    intro W hW
    go_simp
    try with_reducible rfl
  simp only [Act.put, List.setIfInBounds_toArray, List.set_cons_succ, List.set_cons_zero]
  refine' wpAnyH_take (i := 3) ?h1x3p ?hsx3p ?hfx3p ?hrx3p ?hQx3p (Or.inl ⟨?hwx3p, ?hyx3p⟩) hS ?restx3p
  case h1x3p => (simp only [List.getElem?_toArray, List.getElem?_cons_succ, List.getElem?_cons_zero]; rfl)
  case hsx3p => kernel_rfl
  case hfx3p => kernel_rfl
  case hrx3p => kernel_rfl
  case hQx3p => exact fun _ _ _ h => h
  case hwx3p => rfl
  case hyx3p =>
    intro W hW
    go_simp
    try with_reducible rfl
  simp only [Act.put, List.setIfInBounds_toArray, List.set_cons_succ, List.set_cons_zero]
  refine' wpAnyH_take (i := 4) ?h1x4p ?hsx4p ?hfx4p ?hrx4p ?hQx4p (Or.inl ⟨?hwx4p, ?hyx4p⟩) hS ?restx4p
  case h1x4p => (simp only [List.getElem?_toArray, List.getElem?_cons_succ, List.getElem?_cons_zero]; rfl)
  case hsx4p => kernel_rfl
  case hfx4p => kernel_rfl
  case hrx4p => kernel_rfl
  case hQx4p => exact fun _ _ _ h => h
  case hwx4p => rfl
  case hyx4p =>
    intro W hW
    have dd := (hW.cell (p := ⟨g, 0, none⟩) LG.out).trans CX.out
    go_simp
    try with_reducible rfl
  simp only [Act.put, List.setIfInBounds_toArray, List.set_cons_succ, List.set_cons_zero]
  refine' wpAnyH_take (i := 5) ?h1x5p ?hsx5p ?hfx5p ?hrx5p ?hQx5p (Or.inl ⟨?hwx5p, ?hyx5p⟩) hS ?restx5p
  case h1x5p => (simp only [List.getElem?_toArray, List.getElem?_cons_succ, List.getElem?_cons_zero]; rfl)
  case hsx5p => kernel_rfl
  case hfx5p => kernel_rfl
  case hrx5p => kernel_rfl
  case hQx5p => exact fun _ _ _ h => h
  case hwx5p => rfl
  case hyx5p =>
    intro W hW
    go_simp
    try with_reducible rfl
  simp only [Act.put, List.setIfInBounds_toArray, List.set_cons_succ, List.set_cons_zero]
  refine' wpAnyH_take (i := 6) ?h1x6p ?hsx6p ?hfx6p ?hrx6p ?hQx6p (yieldsIf_load_at ?hwx6p 91 (.tmp 4) ?hopx6p w.heap.size 0 rfl (ncells tw) _ (fun W hW => range_row ((hW.block _ (blk_lt G0.out)).trans G0.out)) Tryd.underlying91 rfl ?hix6p) hS ?restx6p
  case h1x6p => (simp only [List.getElem?_toArray, List.getElem?_cons_succ, List.getElem?_cons_zero]; rfl)
  case hopx6p => rfl
  case hsx6p => kernel_rfl
  case hfx6p => kernel_rfl
  case hrx6p => kernel_rfl
  case hQx6p => exact fun _ _ _ h => h
  case hwx6p => rfl
  case hix6p => exact (i47 TL.out)
  simp only [Act.put, List.setIfInBounds_toArray, List.set_cons_succ, List.set_cons_zero]
  refine' wpAnyH_take (i := 7) ?h1x7p ?hsx7p ?hfx7p ?hrx7p ?hQx7p (Or.inl ⟨?hwx7p, ?hyx7p⟩) hS ?restx7p
  case h1x7p => (simp only [List.getElem?_toArray, List.getElem?_cons_succ, List.getElem?_cons_zero]; rfl)
  case hsx7p => kernel_rfl
  case hfx7p => kernel_rfl
  case hrx7p => kernel_rfl
  case hQx7p => exact fun _ _ _ h => h
  case hwx7p => rfl
  case hyx7p =>
    intro W hW
    go_simp
    try with_reducible rfl
  simp only [Act.put, List.setIfInBounds_toArray, List.set_cons_succ, List.set_cons_zero]
  refine wpAnyH_ready (rs := [8]) (by kernel_rfl) (by simp) ?_
  refine' AllReadyH.cons ?hoc8p (fun K hK => ?stc8p) AllReadyH.nil
  case hoc8p => (simp only [List.getElem?_toArray, List.getElem?_cons_succ, List.getElem?_cons_zero]; rfl)
  go_simp
  refine (HX.out _ (HB.out.trans (hS.mono HB.out.size))).mono ?_
  rintro e w3 ⟨q, rfl, hq, hr, hb⟩
  have hWq := Lib.hid (Nat.le_trans hS.size hq)
  clear hq
  go_wp2_with fail
  refine hK.out _ _ (hS.trans (hb.mono hS.size)) (fun hHeld => ?_)
  clear hK K
  try simp only [Act.put, List.setIfInBounds_toArray, List.set_cons_succ, List.set_cons_zero]
  clear hS hb
  have hS := hHeld
  clear hHeld
  refine' wpAnyH_take (i := 9) ?h1x9p ?hsx9p ?hfx9p ?hrx9p ?hQx9p (Or.inl ⟨?hwx9p, ?hyx9p⟩) hS ?restx9p
  case h1x9p => (simp only [List.getElem?_toArray, List.getElem?_cons_succ, List.getElem?_cons_zero]; rfl)
  case hsx9p => kernel_rfl
  case hfx9p => kernel_rfl
  case hrx9p => kernel_rfl
  case hQx9p => exact fun _ _ _ h => h
  case hwx9p => rfl
  case hyx9p =>
    intro W hW
    go_simp
    try with_reducible rfl
  simp only [Act.put, List.setIfInBounds_toArray, List.set_cons_succ, List.set_cons_zero]
  refine' wpAnyH_take (i := 10) ?h1x10p ?hsx10p ?hfx10p ?hrx10p ?hQx10p (Or.inl ⟨?hwx10p, ?hyx10p⟩) hS ?restx10p
  case h1x10p => (simp only [List.getElem?_toArray, List.getElem?_cons_succ, List.getElem?_cons_zero]; rfl)
  case hsx10p => kernel_rfl
  case hfx10p => kernel_rfl
  case hrx10p => kernel_rfl
  case hQx10p => exact fun _ _ _ h => h
  case hwx10p => rfl
  case hyx10p =>
    intro W hW
    go_simp
    try with_reducible rfl
  simp only [Act.put, List.setIfInBounds_toArray, List.set_cons_succ, List.set_cons_zero]
  refine' wpAnyH_take (i := 11) ?h1x11p ?hsx11p ?hfx11p ?hrx11p ?hQx11p (Or.inl ⟨?hwx11p, ?hyx11p⟩) hS ?restx11p
  case h1x11p => (simp only [List.getElem?_toArray, List.getElem?_cons_succ, List.getElem?_cons_zero]; rfl)
  case hsx11p => kernel_rfl
  case hfx11p => kernel_rfl
  case hrx11p => kernel_rfl
  case hQx11p => exact fun _ _ _ h => h
  case hwx11p => rfl
  case hyx11p =>
    intro W hW
    go_simp
    try with_reducible rfl
  simp only [Act.put, List.setIfInBounds_toArray, List.set_cons_succ, List.set_cons_zero]
  refine' wpAnyH_take (i := 12) ?h1x12p ?hsx12p ?hfx12p ?hrx12p ?hQx12p (Or.inl ⟨?hwx12p, ?hyx12p⟩) hS ?restx12p
  case h1x12p => (simp only [List.getElem?_toArray, List.getElem?_cons_succ, List.getElem?_cons_zero]; rfl)
  case hsx12p => kernel_rfl
  case hfx12p => kernel_rfl
  case hrx12p => kernel_rfl
  case hQx12p => exact fun _ _ _ h => h
  case hwx12p => rfl
  case hyx12p =>
    intro W hW
    go_simp
    try with_reducible rfl
  simp only [Act.put, List.setIfInBounds_toArray, List.set_cons_succ, List.set_cons_zero]
  refine wpAnyH_done (by kernel_rfl) ?_ _
  go_wp2_with fail
  go_ret2
  have hz0 := HB.out.size
  exact ⟨q, rfl, by have := hWq.out; omega, hr, HB.out.trans (hS.mono HB.out.size)⟩
set_option maxRecDepth 100000 in
set_option maxHeartbeats 4000000 in
theorem backXNo (F1 F2 tw : List Nat) (htw : Bts 16 tw) (g L : Nat) (x : Option Addr) (cap : Nat) (w : World) (hx : XIat w g F1 F2) (hm : L ≤ 9223372036854775807) (h : L = 0 ∨ L % 16 ≠ 0 ∨ 65536 < L) :
    Calls Tryd.prog 39 #[.pointer (some ⟨g, 0, none⟩), .agg (ncells tw), .slice x L cap] w fun e w' => e = .returned (.tuple #[.slice none 0 0, .int .i64 3]) ∧ Below w.heap.size w w' := by
  obtain ⟨g1, g2, hx0, hx1, hx2⟩ := hx
  have LG0 := Lib.hid (blk_lt hx0)
  have TL := Lib.hid htw.1
  obtain ⟨W0, hW0⟩ : ∃ W0, W0 = w.alloc (.cells (ncells tw) 91) := ⟨_, rfl⟩
  have HB : Hid (Below w.heap.size w W0) := by rw [hW0]; exact (Below.refl _ _).alloc (Nat.le_refl _) _
  have G0 : Hid (W0.heap[w.heap.size]? = some (.cells (ncells tw) 91 (0, 0))) := by show _ = _; rw [hW0]; exact heap_alloc_new w _
  have HW0 := Lib.hid hW0
  have HX : Hid (∀ W v p, Calls Tryd.prog 51 #[p, v, .agg (ncells tw), .slice x L cap] W fun e w' => e = .returned (.tuple #[.slice none 0 0, .int .i64 3]) ∧ Below W.heap.size W w') := fun W v p => thrTNo v tw x L cap hm h p W
  have CX : Hid (W0.cell? ⟨g, 0, none⟩ = some (.pointer (some ⟨g1, 0, none⟩))) := (HB.out.cell (p := ⟨g, 0, none⟩) LG0.out).trans (cell_of_row _ _ 0 _ _ _ hx0)
  have LG : Hid (g < W0.heap.size) := Nat.lt_of_lt_of_le LG0.out HB.out.size
  clear hx0 hx1 hx2 hm h htw hW0
  go_enter Tryd.func39, Tryd.ntmps39
  have cc : (w.alloc (.cells (ncells tw) 91)).cell? ⟨g, 0, none⟩ = some (.pointer (some ⟨g1, 0, none⟩)) := by rw [← HW0.out]; exact CX.out
  go_wp2_with fail
  clear cc
  rw [← HW0.out]
  refine wp_region_held_drew (S := fun W => Below W0.heap.size W0 W) (by kernel_rfl) (Below.refl _ _).drew (fun hS => ?_)
  refine' wpAnyH_take (i := 0) ?h1x0p ?hsx0p ?hfx0p ?hrx0p ?hQx0p (Or.inl ⟨?hwx0p, ?hyx0p⟩) hS ?restx0p
  case h1x0p => (simp only [List.getElem?_toArray, List.getElem?_cons_zero]; rfl)
  case hsx0p => kernel_rfl
  case hfx0p => kernel_rfl
  case hrx0p => kernel_rfl
  case hQx0p => exact fun _ _ _ h => h
  case hwx0p => rfl
  case hyx0p =>
    intro W hW
    go_simp
    try with_reducible rfl
  simp only [Act.put, List.setIfInBounds_toArray, List.set_cons_succ, List.set_cons_zero]
  refine' wpAnyH_take (i := 1) ?h1x1p ?hsx1p ?hfx1p ?hrx1p ?hQx1p (Or.inl ⟨?hwx1p, ?hyx1p⟩) hS ?restx1p
  case h1x1p => (simp only [List.getElem?_toArray, List.getElem?_cons_succ, List.getElem?_cons_zero]; rfl)
  case hsx1p => kernel_rfl
  case hfx1p => kernel_rfl
  case hrx1p => kernel_rfl
  case hQx1p => exact fun _ _ _ h => h
  case hwx1p => rfl
  case hyx1p =>
    intro W hW
    go_simp
    try with_reducible rfl
  simp only [Act.put, List.setIfInBounds_toArray, List.set_cons_succ, List.set_cons_zero]
  refine' wpAnyH_take (i := 2) ?h1x2p ?hsx2p ?hfx2p ?hrx2p ?hQx2p (Or.inl ⟨?hwx2p, ?hyx2p⟩) hS ?restx2p
  case h1x2p => (simp only [List.getElem?_toArray, List.getElem?_cons_succ, List.getElem?_cons_zero]; rfl)
  case hsx2p => kernel_rfl
  case hfx2p => kernel_rfl
  case hrx2p => kernel_rfl
  case hQx2p => exact fun _ _ _ h => h
  case hwx2p => rfl
  case hyx2p =>
    intro W hW
    go_simp
    try with_reducible rfl
  simp only [Act.put, List.setIfInBounds_toArray, List.set_cons_succ, List.set_cons_zero]
  refine' wpAnyH_take (i := 3) ?h1x3p ?hsx3p ?hfx3p ?hrx3p ?hQx3p (Or.inl ⟨?hwx3p, ?hyx3p⟩) hS ?restx3p
  case h1x3p => (simp only [List.getElem?_toArray, List.getElem?_cons_succ, List.getElem?_cons_zero]; rfl)
  case hsx3p => kernel_rfl
  case hfx3p => kernel_rfl
  case hrx3p => kernel_rfl
  case hQx3p => exact fun _ _ _ h => h
  case hwx3p => rfl
  case hyx3p =>
    intro W hW
    go_simp
    try with_reducible rfl
  simp only [Act.put, List.setIfInBounds_toArray, List.set_cons_succ, List.set_cons_zero]
  refine' wpAnyH_take (i := 4) ?h1x4p ?hsx4p ?hfx4p ?hrx4p ?hQx4p (Or.inl ⟨?hwx4p, ?hyx4p⟩) hS ?restx4p
  case h1x4p => (simp only [List.getElem?_toArray, List.getElem?_cons_succ, List.getElem?_cons_zero]; rfl)
  case hsx4p => kernel_rfl
  case hfx4p => kernel_rfl
  case hrx4p => kernel_rfl
  case hQx4p => exact fun _ _ _ h => h
  case hwx4p => rfl
  case hyx4p =>
    intro W hW
    have dd := (hW.cell (p := ⟨g, 0, none⟩) LG.out).trans CX.out
    go_simp
    try with_reducible rfl
  simp only [Act.put, List.setIfInBounds_toArray, List.set_cons_succ, List.set_cons_zero]
  refine' wpAnyH_take (i := 5) ?h1x5p ?hsx5p ?hfx5p ?hrx5p ?hQx5p (Or.inl ⟨?hwx5p, ?hyx5p⟩) hS ?restx5p
  case h1x5p => (simp only [List.getElem?_toArray, List.getElem?_cons_succ, List.getElem?_cons_zero]; rfl)
  case hsx5p => kernel_rfl
  case hfx5p => kernel_rfl
  case hrx5p => kernel_rfl
  case hQx5p => exact fun _ _ _ h => h
  case hwx5p => rfl
  case hyx5p =>
    intro W hW
    go_simp
    try with_reducible rfl
  simp only [Act.put, List.setIfInBounds_toArray, List.set_cons_succ, List.set_cons_zero]
  refine' wpAnyH_take (i := 6) ?h1x6p ?hsx6p ?hfx6p ?hrx6p ?hQx6p (yieldsIf_load_at ?hwx6p 91 (.tmp 4) ?hopx6p w.heap.size 0 rfl (ncells tw) _ (fun W hW => range_row ((hW.block _ (blk_lt G0.out)).trans G0.out)) Tryd.underlying91 rfl ?hix6p) hS ?restx6p
  case h1x6p => (simp only [List.getElem?_toArray, List.getElem?_cons_succ, List.getElem?_cons_zero]; rfl)
  case hopx6p => rfl
  case hsx6p => kernel_rfl
  case hfx6p => kernel_rfl
  case hrx6p => kernel_rfl
  case hQx6p => exact fun _ _ _ h => h
  case hwx6p => rfl
  case hix6p => exact (i47 TL.out)
  simp only [Act.put, List.setIfInBounds_toArray, List.set_cons_succ, List.set_cons_zero]
  refine' wpAnyH_take (i := 7) ?h1x7p ?hsx7p ?hfx7p ?hrx7p ?hQx7p (Or.inl ⟨?hwx7p, ?hyx7p⟩) hS ?restx7p
  case h1x7p => (simp only [List.getElem?_toArray, List.getElem?_cons_succ, List.getElem?_cons_zero]; rfl)
  case hsx7p => kernel_rfl
  case hfx7p => kernel_rfl
  case hrx7p => kernel_rfl
  case hQx7p => exact fun _ _ _ h => h
  case hwx7p => rfl
  case hyx7p =>
    intro W hW
    go_simp
    try with_reducible rfl
  simp only [Act.put, List.setIfInBounds_toArray, List.set_cons_succ, List.set_cons_zero]
  refine wpAnyH_ready (rs := [8]) (by kernel_rfl) (by simp) ?_
  refine' AllReadyH.cons ?hoc8p (fun K hK => ?stc8p) AllReadyH.nil
  case hoc8p => (simp only [List.getElem?_toArray, List.getElem?_cons_succ, List.getElem?_cons_zero]; rfl)
  go_simp
  refine (HX.out _ _ _).mono ?_
  rintro e w3 ⟨rfl, hb⟩
  go_wp2_with fail
  refine hK.out _ _ (hS.trans (hb.mono hS.size)) (fun hHeld => ?_)
  clear hK K
  try simp only [Act.put, List.setIfInBounds_toArray, List.set_cons_succ, List.set_cons_zero]
  clear hS hb
  have hS := hHeld
  clear hHeld
  refine' wpAnyH_take (i := 9) ?h1x9p ?hsx9p ?hfx9p ?hrx9p ?hQx9p (Or.inl ⟨?hwx9p, ?hyx9p⟩) hS ?restx9p
  case h1x9p => (simp only [List.getElem?_toArray, List.getElem?_cons_succ, List.getElem?_cons_zero]; rfl)
  case hsx9p => kernel_rfl
  case hfx9p => kernel_rfl
  case hrx9p => kernel_rfl
  case hQx9p => exact fun _ _ _ h => h
  case hwx9p => rfl
  case hyx9p =>
    intro W hW
    go_simp
    try with_reducible rfl
  simp only [Act.put, List.setIfInBounds_toArray, List.set_cons_succ, List.set_cons_zero]
  refine' wpAnyH_take (i := 10) ?h1x10p ?hsx10p ?hfx10p ?hrx10p ?hQx10p (Or.inl ⟨?hwx10p, ?hyx10p⟩) hS ?restx10p
  case h1x10p => (simp only [List.getElem?_toArray, List.getElem?_cons_succ, List.getElem?_cons_zero]; rfl)
  case hsx10p => kernel_rfl
  case hfx10p => kernel_rfl
  case hrx10p => kernel_rfl
  case hQx10p => exact fun _ _ _ h => h
  case hwx10p => rfl
  case hyx10p =>
    intro W hW
    go_simp
    try with_reducible rfl
  simp only [Act.put, List.setIfInBounds_toArray, List.set_cons_succ, List.set_cons_zero]
  refine' wpAnyH_take (i := 11) ?h1x11p ?hsx11p ?hfx11p ?hrx11p ?hQx11p (Or.inl ⟨?hwx11p, ?hyx11p⟩) hS ?restx11p
  case h1x11p => (simp only [List.getElem?_toArray, List.getElem?_cons_succ, List.getElem?_cons_zero]; rfl)
  case hsx11p => kernel_rfl
  case hfx11p => kernel_rfl
  case hrx11p => kernel_rfl
  case hQx11p => exact fun _ _ _ h => h
  case hwx11p => rfl
  case hyx11p =>
    intro W hW
    go_simp
    try with_reducible rfl
  simp only [Act.put, List.setIfInBounds_toArray, List.set_cons_succ, List.set_cons_zero]
  refine' wpAnyH_take (i := 12) ?h1x12p ?hsx12p ?hfx12p ?hrx12p ?hQx12p (Or.inl ⟨?hwx12p, ?hyx12p⟩) hS ?restx12p
  case h1x12p => (simp only [List.getElem?_toArray, List.getElem?_cons_succ, List.getElem?_cons_zero]; rfl)
  case hsx12p => kernel_rfl
  case hfx12p => kernel_rfl
  case hrx12p => kernel_rfl
  case hQx12p => exact fun _ _ _ h => h
  case hwx12p => rfl
  case hyx12p =>
    intro W hW
    go_simp
    try with_reducible rfl
  simp only [Act.put, List.setIfInBounds_toArray, List.set_cons_succ, List.set_cons_zero]
  refine wpAnyH_done (by kernel_rfl) ?_ _
  go_wp2_with fail
  go_ret2
  exact ⟨rfl, HB.out.trans (hS.mono HB.out.size)⟩
set_option maxRecDepth 100000 in
theorem backXNil (tw : List Nat) (v : Value) (w : World) : Calls Tryd.prog 39 #[.pointer none, .agg (ncells tw), v] w fun e w' => e = .returned (.tuple #[.slice none 0 0, .int .i64 6]) ∧ Below w.heap.size w w' := by
  go_enter Tryd.func39, Tryd.ntmps39
  go_wp2_with fail
  go_ret2
  exact ⟨rfl, (Below.refl _ _).alloc (Nat.le_refl _) _⟩
end Go.Proofs.YtpkeofioobmmoaaDoor.ae
