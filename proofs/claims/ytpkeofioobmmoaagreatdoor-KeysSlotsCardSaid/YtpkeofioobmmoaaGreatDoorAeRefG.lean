/-
  Contracts of the document's own functions of package aes: a cipher. Condition: the numbers are bytes.
-/
import Derived.Test.YtpkeofioobmmoaaGreatDoorAeRefP
namespace Go.Proofs.YtpkeofioobmmoaaGreatDoor.ae
open Go.RowKit
set_option maxRecDepth 100000 in
theorem cell_setCell_ne21 (w : World) (g : Nat) (u : Value) : (w.setCell ⟨g, 2, none⟩ u).cell? ⟨g, 1, none⟩ = w.cell? ⟨g, 1, none⟩ := by go_simp
set_option maxRecDepth 100000 in
set_option maxHeartbeats 16000000 in
theorem refNew (key : List Nat) (kb ko kc : Nat) (w : World) (hk : Bts 32 key) (hc : ∀ i, i < 32 → w.cell? ⟨kb, ko + i, none⟩ = some (.int .u8 (at_ key i : Nat))) (hkc : 32 ≤ kc) (hkm : kc ≤ maxLen) :
    Calls Tryz.prog 31 #[.slice (some ⟨kb, ko, none⟩) 32 kc] w fun e w' => ∃ g, e = .returned (.pointer (some ⟨g, 0, none⟩)) ∧ RC w' g key ∧ Below w.heap.size w w' := by
  have HK := Lib.hid hk
  have HC := Lib.hid hc
  have HKM := Lib.hid hkm
  have LK : Hid (kb < w.heap.size) := World.block_lt_of_cell? w _ (hc 0 (by omega))
  have HLB : Hid (bxs.length = 256) := bxs_len
  clear hk hc hkm
  go_enter Tryz.func31, Tryz.ntmps31
  go_wp2_with fail
  refine (refBoxes _).mono ?_
  rintro e w0 ⟨xb, cb, rfl, hob, hb0⟩
  rw [HLB.out] at hob ⊢
  obtain ⟨gb, ob, rfl, _, hcb, hcbm, hbc⟩ := hob.sees.cells (fun e => by have := HLB.out; rw [e] at this; simp at this)
  have CB0 : Hid (∀ j, j < 256 → w0.cell? ⟨gb, ob + j, none⟩ = some (.int .u8 (box j : Nat))) := fun j hj => by rw [hbc j (by rw [HLB.out]; exact hj), bxs_at hj]
  have LB0 : Hid (gb < w0.heap.size) := World.block_lt_of_cell? w0 _ (CB0.out 0 (by omega))
  have B0 := Lib.hid hb0
  rename_i hun
  clear hun hob hbc hb0
  go_wp2_with fail
  obtain ⟨g, hgdef⟩ : ∃ g, g = w0.heap.size := ⟨_, rfl⟩
  obtain ⟨b1, hb1def⟩ : ∃ b, b = w0.heap.size + 1 := ⟨_, rfl⟩
  have hal : Below w0.heap.size w0 (w0.alloc (.cells #[.slice none 0 0, .slice (some ⟨gb, ob, none⟩) 256 cb, .slice none 0 0] 91)) := (Below.refl _ _).alloc (Nat.le_refl _) _
  have HG0 : Hid ((w0.alloc (.cells #[.slice none 0 0, .slice (some ⟨gb, ob, none⟩) 256 cb, .slice none 0 0] 91)).heap[g]? = some (.cells #[.slice none 0 0, .slice (some ⟨gb, ob, none⟩) 256 cb, .slice none 0 0] 91 (0, 0))) := by rw [hgdef]; exact heap_alloc_new w0 _
  have CB1 : Hid (∀ j, j < 256 → (w0.alloc (.cells #[.slice none 0 0, .slice (some ⟨gb, ob, none⟩) 256 cb, .slice none 0 0] 91)).cell? ⟨gb, ob + j, none⟩ = some (.int .u8 (box j : Nat))) := fun j hj => (hal.cell (p := ⟨gb, ob + j, none⟩) LB0.out).trans (CB0.out j hj)
  have BL0 := Lib.hid (B0.out.trans (hal.mono B0.out.size))
  have SZ0 : Hid (b1 ≤ (w0.alloc (.cells #[.slice none 0 0, .slice (some ⟨gb, ob, none⟩) 256 cb, .slice none 0 0] 91)).heap.size) := by show _ ≤ _; rw [hb1def]; simp
  have LG : Hid (g < b1) := by show _ < _; omega
  have LGB : Hid (gb < b1) := by have := LB0.out; show _ < _; omega
  have NE : Hid (gb ≠ g) := by have := LB0.out; show _ ≠ _; omega
  have WG : Hid (w.heap.size ≤ g) := by show _ ≤ _; rw [hgdef]; exact B0.out.size
  have WB : Hid (w.heap.size ≤ b1) := by have := B0.out.size; show _ ≤ _; omega
  rw [← hgdef]
  generalize w0.alloc (.cells #[.slice none 0 0, .slice (some ⟨gb, ob, none⟩) 256 cb, .slice none 0 0] 91) = W1 at *
  clear hal hgdef hb1def CB0 LB0 B0
  clear w0
  go_loopw [4] (fun vi wr => ∃ (i : Nat) (q : Option Addr) (c : Nat), i ≤ 256 ∧ vi = .int .i64 i ∧ wr.heap[g]? = some (.cells #[.slice none 0 0, .slice (some ⟨gb, ob, none⟩) 256 cb, .slice q i c] 91 (0, 0)) ∧ Own wr b1 (.slice q i c) (tab i (at_ kxs)) ∧ (∀ j, j < 256 → wr.cell? ⟨gb, ob + j, none⟩ = some (.int .u8 (box j : Nat))) ∧ Below w.heap.size w wr ∧ b1 ≤ wr.heap.size) (fun vi _ => 256 - (intOf vi).toNat)
  case atStart => exact ⟨0, none, 0, by omega, rfl, HG0.out, own_nil _ _, CB1.out, BL0.out, SZ0.out⟩
  case round =>
    clear HG0 CB1 BL0 SZ0
    obtain ⟨i, q, c, hi, rfl, hg, ho, hcb2, hbl, hsz⟩ := hrel
    by_cases hlt : i < 256
    · have hi16 : (i : Int) < 256 := by omega
      have E8 := Lib.hid (u8nat i hlt)
      have C1 : Hid (wr.drew.cell? ⟨g, 1, none⟩ = some (.slice (some ⟨gb, ob, none⟩) 256 cb)) := cell_of_row _ _ 1 _ _ _ (show wr.drew.heap[g]? = _ from hg)
      have CB : Hid (∀ j, j < 256 → wr.drew.cell? ⟨gb, ob + j, none⟩ = some (.int .u8 (box j : Nat))) := hcb2
      have UB : Hid (∀ W : World, (∀ j, j < 256 → W.cell? ⟨gb, ob + j, none⟩ = some (.int .u8 (box j : Nat))) → Calls Tryz.prog 50 #[.slice (some ⟨gb, ob, none⟩) 256 cb, .int .u8 i] W fun e w' => e = .returned (.int .u8 (at_ kxs i : Nat)) ∧ W = w') := fun W h =>
        refUnbox i hlt _ cb W ⟨bxs_bts.2, .inr (.inr ⟨gb, ob, cb, by rw [HLB.out], fun e => by have := HLB.out; rw [e] at this; simp at this, by rw [HLB.out]; exact hcb, hcbm, fun j hj => by rw [h j (by rw [← HLB.out]; exact hj), bxs_at (by rw [← HLB.out]; exact hj)]⟩)⟩
      have HG := Lib.hid hg
      have HO := Lib.hid ho
      have HBL := Lib.hid hbl
      have HSZ := Lib.hid hsz
      clear hg ho hcb2 hbl hsz
      go_wp2_with fail
      refine wp_region_held_drew (S := fun W => W.cell? ⟨g, 1, none⟩ = some (.slice (some ⟨gb, ob, none⟩) 256 cb) ∧ ∀ j, j < 256 → W.cell? ⟨gb, ob + j, none⟩ = some (.int .u8 (box j : Nat))) (by kernel_rfl) ⟨C1.out, CB.out⟩ (fun hS => ?_)
      refine' wpAnyH_take (i := 0) ?h1x0a ?hsx0a ?hfx0a ?hrx0a ?hQx0a (Or.inl ⟨?hwx0a, ?hyx0a⟩) hS ?restx0a
      case h1x0a => (simp only [List.getElem?_toArray, List.getElem?_cons_zero]; rfl)
      case hsx0a | hfx0a | hrx0a => kernel_rfl
      case hQx0a => exact fun _ _ _ h => h
      case hwx0a => rfl
      case hyx0a =>
        intro W hW
        go_simp
        try with_reducible rfl
      simp only [Act.put, List.setIfInBounds_toArray, List.set_cons_succ, List.set_cons_zero]
      refine' wpAnyH_take (i := 1) ?h1x1a ?hsx1a ?hfx1a ?hrx1a ?hQx1a (Or.inl ⟨?hwx1a, ?hyx1a⟩) hS ?restx1a
      case h1x1a => (simp only [List.getElem?_toArray, List.getElem?_cons_succ, List.getElem?_cons_zero]; rfl)
      case hsx1a | hfx1a | hrx1a => kernel_rfl
      case hQx1a => exact fun _ _ _ h => h
      case hwx1a => rfl
      case hyx1a =>
        intro W hW
        go_simp
        try with_reducible rfl
      simp only [Act.put, List.setIfInBounds_toArray, List.set_cons_succ, List.set_cons_zero]
      refine' wpAnyH_take (i := 2) ?h1x2a ?hsx2a ?hfx2a ?hrx2a ?hQx2a (Or.inl ⟨?hwx2a, ?hyx2a⟩) hS ?restx2a
      case h1x2a => (simp only [List.getElem?_toArray, List.getElem?_cons_succ, List.getElem?_cons_zero]; rfl)
      case hsx2a | hfx2a | hrx2a => kernel_rfl
      case hQx2a => exact fun _ _ _ h => h
      case hwx2a => rfl
      case hyx2a =>
        intro W hW
        go_simp
        try with_reducible rfl
      simp only [Act.put, List.setIfInBounds_toArray, List.set_cons_succ, List.set_cons_zero]
      refine' wpAnyH_take (i := 3) ?h1x3a ?hsx3a ?hfx3a ?hrx3a ?hQx3a (Or.inl ⟨?hwx3a, ?hyx3a⟩) hS ?restx3a
      case h1x3a => (simp only [List.getElem?_toArray, List.getElem?_cons_succ, List.getElem?_cons_zero]; rfl)
      case hsx3a | hfx3a | hrx3a => kernel_rfl
      case hQx3a => exact fun _ _ _ h => h
      case hwx3a => rfl
      case hyx3a =>
        intro W hW
        go_simp
        try with_reducible rfl
      simp only [Act.put, List.setIfInBounds_toArray, List.set_cons_succ, List.set_cons_zero]
      refine' wpAnyH_take (i := 5) ?h1x5a ?hsx5a ?hfx5a ?hrx5a ?hQx5a (Or.inl ⟨?hwx5a, ?hyx5a⟩) hS ?restx5a
      case h1x5a => (simp only [List.getElem?_toArray, List.getElem?_cons_succ, List.getElem?_cons_zero]; rfl)
      case hsx5a | hfx5a | hrx5a => kernel_rfl
      case hQx5a => exact fun _ _ _ h => h
      case hwx5a => rfl
      case hyx5a =>
        intro W hW
        go_simp
        try with_reducible rfl
      simp only [Act.put, List.setIfInBounds_toArray, List.set_cons_succ, List.set_cons_zero]
      refine' wpAnyH_take (i := 6) ?h1x6a ?hsx6a ?hfx6a ?hrx6a ?hQx6a (Or.inl ⟨?hwx6a, ?hyx6a⟩) hS ?restx6a
      case h1x6a => (simp only [List.getElem?_toArray, List.getElem?_cons_succ, List.getElem?_cons_zero]; rfl)
      case hsx6a | hfx6a | hrx6a => kernel_rfl
      case hQx6a => exact fun _ _ _ h => h
      case hwx6a => rfl
      case hyx6a =>
        intro W hW
        go_simp
        try with_reducible rfl
      simp only [Act.put, List.setIfInBounds_toArray, List.set_cons_succ, List.set_cons_zero]
      refine' wpAnyH_take (i := 7) ?h1x7a ?hsx7a ?hfx7a ?hrx7a ?hQx7a (Or.inl ⟨?hwx7a, ?hyx7a⟩) hS ?restx7a
      case h1x7a => (simp only [List.getElem?_toArray, List.getElem?_cons_succ, List.getElem?_cons_zero]; rfl)
      case hsx7a | hfx7a | hrx7a => kernel_rfl
      case hQx7a => exact fun _ _ _ h => h
      case hwx7a => rfl
      case hyx7a =>
        intro W hW
        go_simp
        try with_reducible rfl
      simp only [Act.put, List.setIfInBounds_toArray, List.set_cons_succ, List.set_cons_zero]
      refine' wpAnyH_take (i := 8) ?h1x8a ?hsx8a ?hfx8a ?hrx8a ?hQx8a (Or.inl ⟨?hwx8a, ?hyx8a⟩) hS ?restx8a
      case h1x8a => (simp only [List.getElem?_toArray, List.getElem?_cons_succ, List.getElem?_cons_zero]; rfl)
      case hsx8a | hfx8a | hrx8a => kernel_rfl
      case hQx8a => exact fun _ _ _ h => h
      case hwx8a => rfl
      case hyx8a =>
        intro W hW
        have dd := hW.1
        go_simp
        try with_reducible rfl
      simp only [Act.put, List.setIfInBounds_toArray, List.set_cons_succ, List.set_cons_zero]
      refine' wpAnyH_take (i := 9) ?h1x9a ?hsx9a ?hfx9a ?hrx9a ?hQx9a (Or.inl ⟨?hwx9a, ?hyx9a⟩) hS ?restx9a
      case h1x9a => (simp only [List.getElem?_toArray, List.getElem?_cons_succ, List.getElem?_cons_zero]; rfl)
      case hsx9a | hfx9a | hrx9a => kernel_rfl
      case hQx9a => exact fun _ _ _ h => h
      case hwx9a => rfl
      case hyx9a =>
        intro W hW
        go_simp
        try with_reducible rfl
      simp only [Act.put, List.setIfInBounds_toArray, List.set_cons_succ, List.set_cons_zero]
      refine' wpAnyH_take (i := 10) ?h1x10a ?hsx10a ?hfx10a ?hrx10a ?hQx10a (Or.inl ⟨?hwx10a, ?hyx10a⟩) hS ?restx10a
      case h1x10a => (simp only [List.getElem?_toArray, List.getElem?_cons_succ, List.getElem?_cons_zero]; rfl)
      case hsx10a | hfx10a | hrx10a => kernel_rfl
      case hQx10a => exact fun _ _ _ h => h
      case hwx10a => rfl
      case hyx10a =>
        intro W hW
        have dd := E8.out
        go_simp
        try with_reducible rfl
      simp only [Act.put, List.setIfInBounds_toArray, List.set_cons_succ, List.set_cons_zero]
      generalize hWd : wr.drew = Wd at *
      have hg := HG.out
      have ho := HO.out
      have hbl := HBL.out
      have hsz := HSZ.out
      change wr.drew = Wd at hWd
      have hg : Wd.heap[g]? = some (.cells #[.slice none 0 0, .slice (some ⟨gb, ob, none⟩) 256 cb, .slice q i c] 91 (0, 0)) := by rw [← hWd]; exact hg
      have ho : Own Wd b1 (.slice q i c) (tab i (at_ kxs)) := by rw [← hWd]; exact ho.drew
      have hbl : Below w.heap.size w Wd := by rw [← hWd]; exact hbl.drew
      have hsz : b1 ≤ Wd.heap.size := by rw [← hWd]; exact hsz
      clear hWd
      refine wpAnyH_ready (rs := [4, 11]) (by kernel_rfl) (by simp) ?_
      refine' (AllReadyH.cons ?hoc4a (fun K hK => ?stc4a) (AllReadyH.cons ?hoc11a (fun K hK => ?stc11a) AllReadyH.nil))
      case hoc4a => (simp only [List.getElem?_toArray, List.getElem?_cons_succ, List.getElem?_cons_zero]; rfl)
      case hoc11a => (simp only [List.getElem?_toArray, List.getElem?_cons_succ, List.getElem?_cons_zero]; rfl)
      case stc4a =>
        have dd : Wd.cell? ⟨g, 2, none⟩ = some (.slice q i c) := cell_of_row _ _ 2 _ _ _ hg
        go_simp
        refine hK.out _ _ hS (fun hHeld => ?_)
        clear hK K dd
        try simp only [Act.put, List.setIfInBounds_toArray, List.set_cons_succ, List.set_cons_zero]
        clear hS
        have hS := hHeld
        clear hHeld
        refine wpAnyH_ready (rs := [11]) (by kernel_rfl) (by simp) ?_
        refine' AllReadyH.cons ?hoc11a4x (fun K hK => ?stc11a4x) AllReadyH.nil
        case hoc11a4x => (simp only [List.getElem?_toArray, List.getElem?_cons_succ, List.getElem?_cons_zero]; rfl)
        go_simp
        refine (UB.out Wd hS.2).mono ?_
        rintro e w' ⟨rfl, rfl⟩
        go_wp2_with fail
        refine hK.out _ _ hS (fun hHeld => ?_)
        clear hK K
        try simp only [Act.put, List.setIfInBounds_toArray, List.set_cons_succ, List.set_cons_zero]
        clear hS
        have hS := hHeld
        clear hHeld
        refine wpAnyH_ready (rs := [12]) (by kernel_rfl) (by simp) ?_
        refine' AllReadyH.cons ?hoc12a4x11x (fun K hK => ?stc12a4x11x) AllReadyH.nil
        case hoc12a4x11x => (simp only [List.getElem?_toArray, List.getElem?_cons_succ, List.getElem?_cons_zero]; rfl)
        go_simp
        have hal : Below Wd.heap.size Wd (Wd.alloc (.cells #[.int .u8 (at_ kxs i : Nat)] 5)) := (Below.refl Wd.heap.size Wd).alloc (Nat.le_refl _) (.cells #[.int .u8 (at_ kxs i : Nat)] 5)
        have hs2 : (Wd.alloc (.cells #[.int .u8 (at_ kxs i : Nat)] 5)).cell? ⟨g, 1, none⟩ = some (.slice (some ⟨gb, ob, none⟩) 256 cb) ∧ ∀ j, j < 256 → (Wd.alloc (.cells #[.int .u8 (at_ kxs i : Nat)] 5)).cell? ⟨gb, ob + j, none⟩ = some (.int .u8 (box j : Nat)) :=
          ⟨(hal.cell (p := ⟨g, 1, none⟩) (World.block_lt_of_cell? Wd _ hS.1)).trans hS.1, fun j hj => (hal.cell (p := ⟨gb, ob + j, none⟩) (World.block_lt_of_cell? Wd _ (hS.2 j hj))).trans (hS.2 j hj)⟩
        refine hK.out _ _ hs2 (fun hHeld => ?_)
        clear hK K hs2
        try simp only [Act.put, List.setIfInBounds_toArray, List.set_cons_succ, List.set_cons_zero]
        obtain ⟨q1, c1, w1, hrun, ho1, hb1⟩ := ho.push (x := at_ kxs i) (kxs_bts.at_lt _) (by rw [tab_len]; omega) hsz
        rw [← tab_succ i (at_ kxs), tab_len] at ho1
        rw [tab_len] at hrun
        have HS1 := Lib.hid (show w1.cell? ⟨g, 1, none⟩ = some (.slice (some ⟨gb, ob, none⟩) 256 cb) ∧ ∀ j, j < 256 → w1.cell? ⟨gb, ob + j, none⟩ = some (.int .u8 (box j : Nat)) from ⟨(hb1.cell (p := ⟨g, 1, none⟩) LG.out).trans hS.1, fun j hj => (hb1.cell (p := ⟨gb, ob + j, none⟩) LGB.out).trans (hS.2 j hj)⟩)
        have HG1 := Lib.hid ((hb1.block _ LG.out).trans hg)
        have HO1 := Lib.hid ho1
        have HBL1 := Lib.hid (hbl.trans (hb1.mono WB.out))
        have HSZ1 := Lib.hid (Nat.le_trans hsz hb1.size)
        have HRUN := Lib.hid hrun
        have hg := (hal.block _ (blk_lt hg)).trans hg
        clear hS
        have hS := hHeld
        clear hHeld
        clear hrun ho1 hb1
        generalize Wd.heap.size = gn at *
        generalize (Wd.alloc (.cells #[.int .u8 (at_ kxs i : Nat)] 5)) = Wa4x11x12x at *
        refine wpAnyH_ready (rs := [13]) (by kernel_rfl) (by simp) ?_
        refine' AllReadyH.cons ?hoc13a4x11x12x (fun K hK => ?stc13a4x11x12x) AllReadyH.nil
        case hoc13a4x11x12x => (simp only [List.getElem?_toArray, List.getElem?_cons_succ, List.getElem?_cons_zero]; rfl)
        refine step_app rfl _ _ rfl rfl rfl rfl HRUN.out ?_
        refine hK.out _ _ HS1.out (fun hHeld => ?_)
        clear hK K
        try simp only [Act.put, List.setIfInBounds_toArray, List.set_cons_succ, List.set_cons_zero]
        clear hS
        have hS := hHeld
        clear hHeld
        refine' wpAnyH_take (i := 14) ?h1x14a4x11x12x ?hsx14a4x11x12x ?hfx14a4x11x12x ?hrx14a4x11x12x ?hQx14a4x11x12x (Or.inl ⟨?hwx14a4x11x12x, ?hyx14a4x11x12x⟩) hS ?restx14a4x11x12x
        case h1x14a4x11x12x => (simp only [List.getElem?_toArray, List.getElem?_cons_succ, List.getElem?_cons_zero]; rfl)
        case hsx14a4x11x12x | hfx14a4x11x12x | hrx14a4x11x12x => kernel_rfl
        case hQx14a4x11x12x => exact fun _ _ _ h => h
        case hwx14a4x11x12x => rfl
        case hyx14a4x11x12x =>
          intro W hW
          go_simp
          try with_reducible rfl
        simp only [Act.put, List.setIfInBounds_toArray, List.set_cons_succ, List.set_cons_zero]
        refine' wpAnyH_take (i := 15) ?h1x15a4x11x12x ?hsx15a4x11x12x ?hfx15a4x11x12x ?hrx15a4x11x12x ?hQx15a4x11x12x (Or.inl ⟨?hwx15a4x11x12x, ?hyx15a4x11x12x⟩) hS ?restx15a4x11x12x
        case h1x15a4x11x12x => (simp only [List.getElem?_toArray, List.getElem?_cons_succ, List.getElem?_cons_zero]; rfl)
        case hsx15a4x11x12x | hfx15a4x11x12x | hrx15a4x11x12x => kernel_rfl
        case hQx15a4x11x12x => exact fun _ _ _ h => h
        case hwx15a4x11x12x => rfl
        case hyx15a4x11x12x =>
          intro W hW
          go_simp
          try with_reducible rfl
        simp only [Act.put, List.setIfInBounds_toArray, List.set_cons_succ, List.set_cons_zero]
        refine wpAnyH_ready (rs := [16]) (by kernel_rfl) (by simp) ?_
        refine' AllReadyH.cons ?hoc16a4x11x12x (fun K hK => ?stc16a4x11x12x) AllReadyH.nil
        case hoc16a4x11x12x => (simp only [List.getElem?_toArray, List.getElem?_cons_succ, List.getElem?_cons_zero]; rfl)
        have dd : w1.cell? ⟨g, 2, none⟩ = some (.slice q i c) := cell_of_row _ _ 2 _ _ _ HG1.out
        have df := frozen_of_row w1 g 2 _ 91 HG1.out
        go_simp
        refine hK.out _ _ ⟨(by rw [← HS1.out.1]; exact cell_setCell_ne21 w1 g _), fun j hj => (cell_setOther NE.out).trans (HS1.out.2 j hj)⟩ (fun hHeld => ?_)
        clear hK K dd df
        try simp only [Act.put, List.setIfInBounds_toArray, List.set_cons_succ, List.set_cons_zero]
        refine wpAnyH_done (by kernel_rfl) ?_ _
        have HG2 : Hid ((w1.setCell ⟨g, 2, none⟩ (.slice q1 (i + 1) c1)).heap[g]? = some (.cells #[.slice none 0 0, .slice (some ⟨gb, ob, none⟩) 256 cb, .slice q1 (i + 1) c1] 91 (0, 0))) := (heap_setCell_same _ _ _ _ _ _ HG1.out).trans rfl
        have HO2 := Lib.hid (HO1.out.setOther (k := 2) (u := .slice q1 (i + 1) c1) LG.out)
        have HBL2 : Hid (Below w.heap.size w (w1.setCell ⟨g, 2, none⟩ (.slice q1 (i + 1) c1))) := HBL1.out.setCell WG.out _
        go_wp2_with fail
        go_roundw
        case rel => exact ⟨i + 1, q1, c1, by omega, by go_num, HG2.out, HO2.out, fun j hj => hHeld.2 j hj, HBL2.out, by simpa using HSZ1.out⟩
        case measure => simp [intOf]; omega
      case stc11a =>
        go_simp
        refine (UB.out Wd hS.2).mono ?_
        rintro e w' ⟨rfl, rfl⟩
        go_wp2_with fail
        refine hK.out _ _ hS (fun hHeld => ?_)
        clear hK K
        try simp only [Act.put, List.setIfInBounds_toArray, List.set_cons_succ, List.set_cons_zero]
        clear hS
        have hS := hHeld
        clear hHeld
        refine wpAnyH_ready (rs := [4, 12]) (by kernel_rfl) (by simp) ?_
        refine' (AllReadyH.cons ?hoc4a11x (fun K hK => ?stc4a11x) (AllReadyH.cons ?hoc12a11x (fun K hK => ?stc12a11x) AllReadyH.nil))
        case hoc4a11x => (simp only [List.getElem?_toArray, List.getElem?_cons_succ, List.getElem?_cons_zero]; rfl)
        case hoc12a11x => (simp only [List.getElem?_toArray, List.getElem?_cons_succ, List.getElem?_cons_zero]; rfl)
        case stc4a11x =>
          have dd : Wd.cell? ⟨g, 2, none⟩ = some (.slice q i c) := cell_of_row _ _ 2 _ _ _ hg
          go_simp
          refine hK.out _ _ hS (fun hHeld => ?_)
          clear hK K dd
          try simp only [Act.put, List.setIfInBounds_toArray, List.set_cons_succ, List.set_cons_zero]
          clear hS
          have hS := hHeld
          clear hHeld
          refine wpAnyH_ready (rs := [12]) (by kernel_rfl) (by simp) ?_
          refine' AllReadyH.cons ?hoc12a11x4x (fun K hK => ?stc12a11x4x) AllReadyH.nil
          case hoc12a11x4x => (simp only [List.getElem?_toArray, List.getElem?_cons_succ, List.getElem?_cons_zero]; rfl)
          go_simp
          have hal : Below Wd.heap.size Wd (Wd.alloc (.cells #[.int .u8 (at_ kxs i : Nat)] 5)) := (Below.refl Wd.heap.size Wd).alloc (Nat.le_refl _) (.cells #[.int .u8 (at_ kxs i : Nat)] 5)
          have hs2 : (Wd.alloc (.cells #[.int .u8 (at_ kxs i : Nat)] 5)).cell? ⟨g, 1, none⟩ = some (.slice (some ⟨gb, ob, none⟩) 256 cb) ∧ ∀ j, j < 256 → (Wd.alloc (.cells #[.int .u8 (at_ kxs i : Nat)] 5)).cell? ⟨gb, ob + j, none⟩ = some (.int .u8 (box j : Nat)) :=
            ⟨(hal.cell (p := ⟨g, 1, none⟩) (World.block_lt_of_cell? Wd _ hS.1)).trans hS.1, fun j hj => (hal.cell (p := ⟨gb, ob + j, none⟩) (World.block_lt_of_cell? Wd _ (hS.2 j hj))).trans (hS.2 j hj)⟩
          refine hK.out _ _ hs2 (fun hHeld => ?_)
          clear hK K hs2
          try simp only [Act.put, List.setIfInBounds_toArray, List.set_cons_succ, List.set_cons_zero]
          obtain ⟨q1, c1, w1, hrun, ho1, hb1⟩ := ho.push (x := at_ kxs i) (kxs_bts.at_lt _) (by rw [tab_len]; omega) hsz
          rw [← tab_succ i (at_ kxs), tab_len] at ho1
          rw [tab_len] at hrun
          have HS1 := Lib.hid (show w1.cell? ⟨g, 1, none⟩ = some (.slice (some ⟨gb, ob, none⟩) 256 cb) ∧ ∀ j, j < 256 → w1.cell? ⟨gb, ob + j, none⟩ = some (.int .u8 (box j : Nat)) from ⟨(hb1.cell (p := ⟨g, 1, none⟩) LG.out).trans hS.1, fun j hj => (hb1.cell (p := ⟨gb, ob + j, none⟩) LGB.out).trans (hS.2 j hj)⟩)
          have HG1 := Lib.hid ((hb1.block _ LG.out).trans hg)
          have HO1 := Lib.hid ho1
          have HBL1 := Lib.hid (hbl.trans (hb1.mono WB.out))
          have HSZ1 := Lib.hid (Nat.le_trans hsz hb1.size)
          have HRUN := Lib.hid hrun
          have hg := (hal.block _ (blk_lt hg)).trans hg
          clear hS
          have hS := hHeld
          clear hHeld
          clear hrun ho1 hb1
          generalize Wd.heap.size = gn at *
          generalize (Wd.alloc (.cells #[.int .u8 (at_ kxs i : Nat)] 5)) = Wa11x4x12x at *
          refine wpAnyH_ready (rs := [13]) (by kernel_rfl) (by simp) ?_
          refine' AllReadyH.cons ?hoc13a11x4x12x (fun K hK => ?stc13a11x4x12x) AllReadyH.nil
          case hoc13a11x4x12x => (simp only [List.getElem?_toArray, List.getElem?_cons_succ, List.getElem?_cons_zero]; rfl)
          refine step_app rfl _ _ rfl rfl rfl rfl HRUN.out ?_
          refine hK.out _ _ HS1.out (fun hHeld => ?_)
          clear hK K
          try simp only [Act.put, List.setIfInBounds_toArray, List.set_cons_succ, List.set_cons_zero]
          clear hS
          have hS := hHeld
          clear hHeld
          refine' wpAnyH_take (i := 14) ?h1x14a11x4x12x ?hsx14a11x4x12x ?hfx14a11x4x12x ?hrx14a11x4x12x ?hQx14a11x4x12x (Or.inl ⟨?hwx14a11x4x12x, ?hyx14a11x4x12x⟩) hS ?restx14a11x4x12x
          case h1x14a11x4x12x => (simp only [List.getElem?_toArray, List.getElem?_cons_succ, List.getElem?_cons_zero]; rfl)
          case hsx14a11x4x12x | hfx14a11x4x12x | hrx14a11x4x12x => kernel_rfl
          case hQx14a11x4x12x => exact fun _ _ _ h => h
          case hwx14a11x4x12x => rfl
          case hyx14a11x4x12x =>
            intro W hW
            go_simp
            try with_reducible rfl
          simp only [Act.put, List.setIfInBounds_toArray, List.set_cons_succ, List.set_cons_zero]
          refine' wpAnyH_take (i := 15) ?h1x15a11x4x12x ?hsx15a11x4x12x ?hfx15a11x4x12x ?hrx15a11x4x12x ?hQx15a11x4x12x (Or.inl ⟨?hwx15a11x4x12x, ?hyx15a11x4x12x⟩) hS ?restx15a11x4x12x
          case h1x15a11x4x12x => (simp only [List.getElem?_toArray, List.getElem?_cons_succ, List.getElem?_cons_zero]; rfl)
          case hsx15a11x4x12x | hfx15a11x4x12x | hrx15a11x4x12x => kernel_rfl
          case hQx15a11x4x12x => exact fun _ _ _ h => h
          case hwx15a11x4x12x => rfl
          case hyx15a11x4x12x =>
            intro W hW
            go_simp
            try with_reducible rfl
          simp only [Act.put, List.setIfInBounds_toArray, List.set_cons_succ, List.set_cons_zero]
          refine wpAnyH_ready (rs := [16]) (by kernel_rfl) (by simp) ?_
          refine' AllReadyH.cons ?hoc16a11x4x12x (fun K hK => ?stc16a11x4x12x) AllReadyH.nil
          case hoc16a11x4x12x => (simp only [List.getElem?_toArray, List.getElem?_cons_succ, List.getElem?_cons_zero]; rfl)
          have dd : w1.cell? ⟨g, 2, none⟩ = some (.slice q i c) := cell_of_row _ _ 2 _ _ _ HG1.out
          have df := frozen_of_row w1 g 2 _ 91 HG1.out
          go_simp
          refine hK.out _ _ ⟨(by rw [← HS1.out.1]; exact cell_setCell_ne21 w1 g _), fun j hj => (cell_setOther NE.out).trans (HS1.out.2 j hj)⟩ (fun hHeld => ?_)
          clear hK K dd df
          try simp only [Act.put, List.setIfInBounds_toArray, List.set_cons_succ, List.set_cons_zero]
          refine wpAnyH_done (by kernel_rfl) ?_ _
          have HG2 : Hid ((w1.setCell ⟨g, 2, none⟩ (.slice q1 (i + 1) c1)).heap[g]? = some (.cells #[.slice none 0 0, .slice (some ⟨gb, ob, none⟩) 256 cb, .slice q1 (i + 1) c1] 91 (0, 0))) := (heap_setCell_same _ _ _ _ _ _ HG1.out).trans rfl
          have HO2 := Lib.hid (HO1.out.setOther (k := 2) (u := .slice q1 (i + 1) c1) LG.out)
          have HBL2 : Hid (Below w.heap.size w (w1.setCell ⟨g, 2, none⟩ (.slice q1 (i + 1) c1))) := HBL1.out.setCell WG.out _
          go_wp2_with fail
          go_roundw
          case rel => exact ⟨i + 1, q1, c1, by omega, by go_num, HG2.out, HO2.out, fun j hj => hHeld.2 j hj, HBL2.out, by simpa using HSZ1.out⟩
          case measure => simp [intOf]; omega
        case stc12a11x =>
          go_simp
          have hal : Below Wd.heap.size Wd (Wd.alloc (.cells #[.int .u8 (at_ kxs i : Nat)] 5)) := (Below.refl Wd.heap.size Wd).alloc (Nat.le_refl _) (.cells #[.int .u8 (at_ kxs i : Nat)] 5)
          have hs2 : (Wd.alloc (.cells #[.int .u8 (at_ kxs i : Nat)] 5)).cell? ⟨g, 1, none⟩ = some (.slice (some ⟨gb, ob, none⟩) 256 cb) ∧ ∀ j, j < 256 → (Wd.alloc (.cells #[.int .u8 (at_ kxs i : Nat)] 5)).cell? ⟨gb, ob + j, none⟩ = some (.int .u8 (box j : Nat)) :=
            ⟨(hal.cell (p := ⟨g, 1, none⟩) (World.block_lt_of_cell? Wd _ hS.1)).trans hS.1, fun j hj => (hal.cell (p := ⟨gb, ob + j, none⟩) (World.block_lt_of_cell? Wd _ (hS.2 j hj))).trans (hS.2 j hj)⟩
          refine hK.out _ _ hs2 (fun hHeld => ?_)
          clear hK K hs2
          try simp only [Act.put, List.setIfInBounds_toArray, List.set_cons_succ, List.set_cons_zero]
          obtain ⟨q1, c1, w1, hrun, ho1, hb1⟩ := ho.push (x := at_ kxs i) (kxs_bts.at_lt _) (by rw [tab_len]; omega) hsz
          rw [← tab_succ i (at_ kxs), tab_len] at ho1
          rw [tab_len] at hrun
          have HS1 := Lib.hid (show w1.cell? ⟨g, 1, none⟩ = some (.slice (some ⟨gb, ob, none⟩) 256 cb) ∧ ∀ j, j < 256 → w1.cell? ⟨gb, ob + j, none⟩ = some (.int .u8 (box j : Nat)) from ⟨(hb1.cell (p := ⟨g, 1, none⟩) LG.out).trans hS.1, fun j hj => (hb1.cell (p := ⟨gb, ob + j, none⟩) LGB.out).trans (hS.2 j hj)⟩)
          have HG1 := Lib.hid ((hb1.block _ LG.out).trans hg)
          have HO1 := Lib.hid ho1
          have HBL1 := Lib.hid (hbl.trans (hb1.mono WB.out))
          have HSZ1 := Lib.hid (Nat.le_trans hsz hb1.size)
          have HRUN := Lib.hid hrun
          have hg := (hal.block _ (blk_lt hg)).trans hg
          clear hS
          have hS := hHeld
          clear hHeld
          clear hrun ho1 hb1
          generalize Wd.heap.size = gn at *
          generalize (Wd.alloc (.cells #[.int .u8 (at_ kxs i : Nat)] 5)) = Wa11x12x at *
          refine wpAnyH_ready (rs := [4]) (by kernel_rfl) (by simp) ?_
          refine' AllReadyH.cons ?hoc4a11x12x (fun K hK => ?stc4a11x12x) AllReadyH.nil
          case hoc4a11x12x => (simp only [List.getElem?_toArray, List.getElem?_cons_succ, List.getElem?_cons_zero]; rfl)
          have dd : Wa11x12x.cell? ⟨g, 2, none⟩ = some (.slice q i c) := cell_of_row _ _ 2 _ _ _ hg
          go_simp
          refine hK.out _ _ hS (fun hHeld => ?_)
          clear hK K dd
          try simp only [Act.put, List.setIfInBounds_toArray, List.set_cons_succ, List.set_cons_zero]
          clear hS
          have hS := hHeld
          clear hHeld
          refine wpAnyH_ready (rs := [13]) (by kernel_rfl) (by simp) ?_
          refine' AllReadyH.cons ?hoc13a11x12x4x (fun K hK => ?stc13a11x12x4x) AllReadyH.nil
          case hoc13a11x12x4x => (simp only [List.getElem?_toArray, List.getElem?_cons_succ, List.getElem?_cons_zero]; rfl)
          refine step_app rfl _ _ rfl rfl rfl rfl HRUN.out ?_
          refine hK.out _ _ HS1.out (fun hHeld => ?_)
          clear hK K
          try simp only [Act.put, List.setIfInBounds_toArray, List.set_cons_succ, List.set_cons_zero]
          clear hS
          have hS := hHeld
          clear hHeld
          refine' wpAnyH_take (i := 14) ?h1x14a11x12x4x ?hsx14a11x12x4x ?hfx14a11x12x4x ?hrx14a11x12x4x ?hQx14a11x12x4x (Or.inl ⟨?hwx14a11x12x4x, ?hyx14a11x12x4x⟩) hS ?restx14a11x12x4x
          case h1x14a11x12x4x => (simp only [List.getElem?_toArray, List.getElem?_cons_succ, List.getElem?_cons_zero]; rfl)
          case hsx14a11x12x4x | hfx14a11x12x4x | hrx14a11x12x4x => kernel_rfl
          case hQx14a11x12x4x => exact fun _ _ _ h => h
          case hwx14a11x12x4x => rfl
          case hyx14a11x12x4x =>
            intro W hW
            go_simp
            try with_reducible rfl
          simp only [Act.put, List.setIfInBounds_toArray, List.set_cons_succ, List.set_cons_zero]
          refine' wpAnyH_take (i := 15) ?h1x15a11x12x4x ?hsx15a11x12x4x ?hfx15a11x12x4x ?hrx15a11x12x4x ?hQx15a11x12x4x (Or.inl ⟨?hwx15a11x12x4x, ?hyx15a11x12x4x⟩) hS ?restx15a11x12x4x
          case h1x15a11x12x4x => (simp only [List.getElem?_toArray, List.getElem?_cons_succ, List.getElem?_cons_zero]; rfl)
          case hsx15a11x12x4x | hfx15a11x12x4x | hrx15a11x12x4x => kernel_rfl
          case hQx15a11x12x4x => exact fun _ _ _ h => h
          case hwx15a11x12x4x => rfl
          case hyx15a11x12x4x =>
            intro W hW
            go_simp
            try with_reducible rfl
          simp only [Act.put, List.setIfInBounds_toArray, List.set_cons_succ, List.set_cons_zero]
          refine wpAnyH_ready (rs := [16]) (by kernel_rfl) (by simp) ?_
          refine' AllReadyH.cons ?hoc16a11x12x4x (fun K hK => ?stc16a11x12x4x) AllReadyH.nil
          case hoc16a11x12x4x => (simp only [List.getElem?_toArray, List.getElem?_cons_succ, List.getElem?_cons_zero]; rfl)
          have dd : w1.cell? ⟨g, 2, none⟩ = some (.slice q i c) := cell_of_row _ _ 2 _ _ _ HG1.out
          have df := frozen_of_row w1 g 2 _ 91 HG1.out
          go_simp
          refine hK.out _ _ ⟨(by rw [← HS1.out.1]; exact cell_setCell_ne21 w1 g _), fun j hj => (cell_setOther NE.out).trans (HS1.out.2 j hj)⟩ (fun hHeld => ?_)
          clear hK K dd df
          try simp only [Act.put, List.setIfInBounds_toArray, List.set_cons_succ, List.set_cons_zero]
          refine wpAnyH_done (by kernel_rfl) ?_ _
          have HG2 : Hid ((w1.setCell ⟨g, 2, none⟩ (.slice q1 (i + 1) c1)).heap[g]? = some (.cells #[.slice none 0 0, .slice (some ⟨gb, ob, none⟩) 256 cb, .slice q1 (i + 1) c1] 91 (0, 0))) := (heap_setCell_same _ _ _ _ _ _ HG1.out).trans rfl
          have HO2 := Lib.hid (HO1.out.setOther (k := 2) (u := .slice q1 (i + 1) c1) LG.out)
          have HBL2 : Hid (Below w.heap.size w (w1.setCell ⟨g, 2, none⟩ (.slice q1 (i + 1) c1))) := HBL1.out.setCell WG.out _
          go_wp2_with fail
          go_roundw
          case rel => exact ⟨i + 1, q1, c1, by omega, by go_num, HG2.out, HO2.out, fun j hj => hHeld.2 j hj, HBL2.out, by simpa using HSZ1.out⟩
          case measure => simp [intOf]; omega
    · have hi256 : i = 256 := by omega
      have hnl : ¬ (i : Int) < 256 := by omega
      rw [hi256, tab_self 256 kxs kxs_len] at ho
      rw [hi256] at hg
      clear hi256
      obtain ⟨W2, rfl⟩ : ∃ W : World, W = wr := ⟨_, rfl⟩
      obtain ⟨vb, hvb⟩ : ∃ v, v = Value.slice (some ⟨gb, ob, none⟩) 256 cb := ⟨_, rfl⟩
      obtain ⟨vk, hvk⟩ : ∃ v, v = Value.slice q 256 c := ⟨_, rfl⟩
      have SB : Hid (Sees W2 (.slice (some ⟨gb, ob, none⟩) 256 cb) bxs) := ⟨bxs_bts.2, .inr (.inr ⟨gb, ob, cb, by rw [HLB.out], fun e => by have := HLB.out; rw [e] at this; simp at this, by rw [HLB.out]; exact hcb, hcbm, fun j hj => by rw [hcb2 j (by rw [← HLB.out]; exact hj), bxs_at (by rw [← HLB.out]; exact hj)]⟩)⟩
      have SK : Hid (Sees W2 (.slice q 256 c) kxs) := ho.sees
      have OKK := Lib.hid ho
      have KS : Hid (∃ (zq : Option Addr) (zc : Nat), vk = Value.slice zq 256 zc ∧ Sees W2 (.slice zq 256 zc) kxs ∧ ∀ k, (Value.slice zq 256 zc).ownBlock = some k → k ≠ g) := by
        refine ⟨q, c, hvk, ho.sees, fun k hk => ?_⟩
        rcases ho.2.2 with ⟨h1, _⟩ | ⟨g', cap', cur, h1, hbase, _⟩
        · simp at h1
        · rw [h1] at hk
          simp only [Value.ownBlock, Option.some.injEq] at hk
          have := LG.out
          omega
      have NS0 : Hid (NS w W2 g vb vk key 0 none 0 [] W2) := ⟨by rw [hvb, hvk]; exact hg, ownv_nil _ _, rfl, fun i hi => absurd hi (by omega), fun _ _ _ => rfl, hbl, Nat.le_refl _⟩
      have LG2 : Hid (g < W2.heap.size) := blk_lt hg
      have HBL := Lib.hid hbl
      have HVB := Lib.hid hvb
      have HVK := Lib.hid hvk
      clear hg ho hcb2 hbl hsz hi hlt hvb hvk
      go_wp2_with fail
      go_loopw [5] (fun vi wr => ∃ (n : Nat) (q : Option Addr) (c : Nat) (xs : List Value), n ≤ 8 ∧ vi = .int .i64 n ∧ NS w W2 g vb vk key n q c xs wr) (fun vi _ => 8 - (intOf vi).toNat)
      case atStart => exact ⟨0, none, 0, [], by omega, rfl, NS0.out⟩
      case round =>
        clear NS0
        obtain ⟨n, q, c, xs, hn8, rfl, hns⟩ := hrel
        by_cases hlt : n < 8
        · have hi16 : (n : Int) < 8 := by omega
          obtain ⟨a, ha⟩ : ∃ a, a = 4 * n := ⟨_, rfl⟩
          have E1 : Hid (4 * (n : Int) = (a : Int) ∧ IntKind.i64.wrap (a : Int) = (a : Int) ∧ IntKind.i64.wrap (4 * (n : Int)) = (a : Int)) := ⟨by omega, IntWalk.i64_in _ (by omega), by rw [IntWalk.i64_in _ (by omega)]; omega⟩
          have E2 : Hid (IntKind.i64.wrap ((a : Int) + 4) = ((a + 4 : Nat) : Int)) := by show _ = _; rw [IntWalk.i64_in _ (by omega)]; omega
          have SL : Hid (∀ W : World, (Instr.slice 31 (.slice (some ⟨kb, ko, none⟩) 32 kc) (some (.int .i64 a)) (some (.int .i64 ((a : Int) + 4))) none).run Tryz.prog W = .ok (.slice (some ⟨kb, ko + a, none⟩) 4 (kc - a)) W) := fun W => by
            have := sl_part kb ko 32 kc a (a + 4) (by omega) (by omega) hkc W
            rw [show a + 4 - a = 4 by omega] at this
            exact this
          have hw4 : lat (wk key 60) n = (key.drop a).take 4 := by
            rw [wk_last key n (by omega), nextw, if_pos hlt, ha]
            have l4 : ((key.drop (4 * n)).take 4).length = 4 := by rw [List.length_take, List.length_drop, HK.out.1]; omega
            refine Eq.trans (tab_congr fun i hi => ?_) (tab_self 4 _ l4)
            simp [at_, List.getD, hi]
          have HWI : Hid (WI w.heap.size wr (.slice (some ⟨kb, ko + a, none⟩) 4 (kc - a)) (lat (wk key 60) n)) := by
            refine ⟨?_, fun k hk => .inl (by simp [Value.ownBlock] at hk; rw [← hk]; exact LK.out)⟩
            rw [hw4]
            exact sees_part HK.out.2 (fun i hi => (hns.2.2.2.2.2.1.cell (p := ⟨kb, ko + i, none⟩) LK.out).trans (HC.out i (by rw [HK.out.1] at hi; exact hi))) a 4 (by rw [HK.out.1]; omega) (by omega) _ (by omega) (by have := HKM.out; omega)
          have HN0 := Lib.hid hns.2.2.2.2.2.1
          have HNS := Lib.hid hns
          clear hns ha hw4
          go_wp2_with fail
          refine wp_region_held_drew (S := fun W => Below w.heap.size w W) (by kernel_rfl) HN0.out.drew (fun hS => ?_)
          refine' wpAnyH_take (i := 0) ?h1x0b ?hsx0b ?hfx0b ?hrx0b ?hQx0b (Or.inl ⟨?hwx0b, ?hyx0b⟩) hS ?restx0b
          case h1x0b => (simp only [List.getElem?_toArray, List.getElem?_cons_zero]; rfl)
          case hsx0b | hfx0b | hrx0b => kernel_rfl
          case hQx0b => exact fun _ _ _ h => h
          case hwx0b => rfl
          case hyx0b =>
            intro W hW
            go_simp
            try with_reducible rfl
          simp only [Act.put, List.setIfInBounds_toArray, List.set_cons_succ, List.set_cons_zero]
          refine' wpAnyH_take (i := 1) ?h1x1b ?hsx1b ?hfx1b ?hrx1b ?hQx1b (Or.inl ⟨?hwx1b, ?hyx1b⟩) hS ?restx1b
          case h1x1b => (simp only [List.getElem?_toArray, List.getElem?_cons_succ, List.getElem?_cons_zero]; rfl)
          case hsx1b | hfx1b | hrx1b => kernel_rfl
          case hQx1b => exact fun _ _ _ h => h
          case hwx1b => rfl
          case hyx1b =>
            intro W hW
            go_simp
            try with_reducible rfl
          simp only [Act.put, List.setIfInBounds_toArray, List.set_cons_succ, List.set_cons_zero]
          refine' wpAnyH_take (i := 2) ?h1x2b ?hsx2b ?hfx2b ?hrx2b ?hQx2b (Or.inl ⟨?hwx2b, ?hyx2b⟩) hS ?restx2b
          case h1x2b => (simp only [List.getElem?_toArray, List.getElem?_cons_succ, List.getElem?_cons_zero]; rfl)
          case hsx2b | hfx2b | hrx2b => kernel_rfl
          case hQx2b => exact fun _ _ _ h => h
          case hwx2b => rfl
          case hyx2b =>
            intro W hW
            go_simp
            try with_reducible rfl
          simp only [Act.put, List.setIfInBounds_toArray, List.set_cons_succ, List.set_cons_zero]
          refine' wpAnyH_take (i := 3) ?h1x3b ?hsx3b ?hfx3b ?hrx3b ?hQx3b (Or.inl ⟨?hwx3b, ?hyx3b⟩) hS ?restx3b
          case h1x3b => (simp only [List.getElem?_toArray, List.getElem?_cons_succ, List.getElem?_cons_zero]; rfl)
          case hsx3b | hfx3b | hrx3b => kernel_rfl
          case hQx3b => exact fun _ _ _ h => h
          case hwx3b => rfl
          case hyx3b =>
            intro W hW
            go_simp
            try with_reducible rfl
          simp only [Act.put, List.setIfInBounds_toArray, List.set_cons_succ, List.set_cons_zero]
          refine' wpAnyH_take (i := 5) ?h1x5b ?hsx5b ?hfx5b ?hrx5b ?hQx5b (Or.inl ⟨?hwx5b, ?hyx5b⟩) hS ?restx5b
          case h1x5b => (simp only [List.getElem?_toArray, List.getElem?_cons_succ, List.getElem?_cons_zero]; rfl)
          case hsx5b | hfx5b | hrx5b => kernel_rfl
          case hQx5b => exact fun _ _ _ h => h
          case hwx5b => rfl
          case hyx5b =>
            intro W hW
            go_simp
            try with_reducible rfl
          simp only [Act.put, List.setIfInBounds_toArray, List.set_cons_succ, List.set_cons_zero]
          refine' wpAnyH_take (i := 6) ?h1x6b ?hsx6b ?hfx6b ?hrx6b ?hQx6b (Or.inl ⟨?hwx6b, ?hyx6b⟩) hS ?restx6b
          case h1x6b => (simp only [List.getElem?_toArray, List.getElem?_cons_succ, List.getElem?_cons_zero]; rfl)
          case hsx6b | hfx6b | hrx6b => kernel_rfl
          case hQx6b => exact fun _ _ _ h => h
          case hwx6b => rfl
          case hyx6b =>
            intro W hW
            go_simp
            try with_reducible rfl
          simp only [Act.put, List.setIfInBounds_toArray, List.set_cons_succ, List.set_cons_zero]
          refine' wpAnyH_take (i := 7) ?h1x7b ?hsx7b ?hfx7b ?hrx7b ?hQx7b (Or.inl ⟨?hwx7b, ?hyx7b⟩) hS ?restx7b
          case h1x7b => (simp only [List.getElem?_toArray, List.getElem?_cons_succ, List.getElem?_cons_zero]; rfl)
          case hsx7b | hfx7b | hrx7b => kernel_rfl
          case hQx7b => exact fun _ _ _ h => h
          case hwx7b => rfl
          case hyx7b =>
            intro W hW
            have dd := E1.out
            go_simp
            try with_reducible rfl
          simp only [Act.put, List.setIfInBounds_toArray, List.set_cons_succ, List.set_cons_zero]
          refine' wpAnyH_take (i := 8) ?h1x8b ?hsx8b ?hfx8b ?hrx8b ?hQx8b (Or.inl ⟨?hwx8b, ?hyx8b⟩) hS ?restx8b
          case h1x8b => (simp only [List.getElem?_toArray, List.getElem?_cons_succ, List.getElem?_cons_zero]; rfl)
          case hsx8b | hfx8b | hrx8b => kernel_rfl
          case hQx8b => exact fun _ _ _ h => h
          case hwx8b => rfl
          case hyx8b =>
            intro W hW
            go_simp
            try with_reducible rfl
          simp only [Act.put, List.setIfInBounds_toArray, List.set_cons_succ, List.set_cons_zero]
          refine' wpAnyH_take (i := 9) ?h1x9b ?hsx9b ?hfx9b ?hrx9b ?hQx9b (Or.inl ⟨?hwx9b, ?hyx9b⟩) hS ?restx9b
          case h1x9b => (simp only [List.getElem?_toArray, List.getElem?_cons_succ, List.getElem?_cons_zero]; rfl)
          case hsx9b | hfx9b | hrx9b => kernel_rfl
          case hQx9b => exact fun _ _ _ h => h
          case hwx9b => rfl
          case hyx9b =>
            intro W hW
            have dd := E1.out
            go_simp
            try with_reducible rfl
          simp only [Act.put, List.setIfInBounds_toArray, List.set_cons_succ, List.set_cons_zero]
          refine' wpAnyH_take (i := 10) ?h1x10b ?hsx10b ?hfx10b ?hrx10b ?hQx10b (Or.inl ⟨?hwx10b, ?hyx10b⟩) hS ?restx10b
          case h1x10b => (simp only [List.getElem?_toArray, List.getElem?_cons_succ, List.getElem?_cons_zero]; rfl)
          case hsx10b | hfx10b | hrx10b => kernel_rfl
          case hQx10b => exact fun _ _ _ h => h
          case hwx10b => rfl
          case hyx10b =>
            intro W hW
            have dd := E2.out
            go_simp
            try with_reducible rfl
          simp only [Act.put, List.setIfInBounds_toArray, List.set_cons_succ, List.set_cons_zero]
          refine' wpAnyH_take (i := 11) ?h1x11b ?hsx11b ?hfx11b ?hrx11b ?hQx11b (Or.inl ⟨?hwx11b, ?hyx11b⟩) hS ?restx11b
          case h1x11b => (simp only [List.getElem?_toArray, List.getElem?_cons_succ, List.getElem?_cons_zero]; rfl)
          case hsx11b | hfx11b | hrx11b => kernel_rfl
          case hQx11b => exact fun _ _ _ h => h
          case hwx11b => rfl
          case hyx11b =>
            intro W hW
            have dd := SL.out W
            go_simp
            try with_reducible rfl
          simp only [Act.put, List.setIfInBounds_toArray, List.set_cons_succ, List.set_cons_zero]
          generalize hWd : wr.drew = Wd at *
          have hns : NS w W2 g vb vk key n q c xs Wd := by rw [← hWd]; exact HNS.out.below (Below.refl _ _).drew
          have hwi : WI w.heap.size Wd (.slice (some ⟨kb, ko + a, none⟩) 4 (kc - a)) (lat (wk key 60) n) := by rw [← hWd]; exact HWI.out.below (Below.refl _ _).drew
          clear hWd
          refine wpAnyH_ready (rs := [4, 12]) (by kernel_rfl) (by simp) ?_
          refine' (AllReadyH.cons ?hoc4b (fun K hK => ?stc4b) (AllReadyH.cons ?hoc12b (fun K hK => ?stc12b) AllReadyH.nil))
          case hoc4b => (simp only [List.getElem?_toArray, List.getElem?_cons_succ, List.getElem?_cons_zero]; rfl)
          case hoc12b => (simp only [List.getElem?_toArray, List.getElem?_cons_succ, List.getElem?_cons_zero]; rfl)
          case stc4b =>
            have dd : Wd.cell? ⟨g, 0, none⟩ = some (.slice q n c) := cell_of_row _ _ 0 _ _ _ hns.1
            go_simp
            refine hK.out _ _ hS (fun hHeld => ?_)
            clear hK K dd
            try simp only [Act.put, List.setIfInBounds_toArray, List.set_cons_succ, List.set_cons_zero]
            clear hS
            have hS := hHeld
            clear hHeld
            refine wpAnyH_ready (rs := [12]) (by kernel_rfl) (by simp) ?_
            refine' AllReadyH.cons ?hoc12b4x (fun K hK => ?stc12b4x) AllReadyH.nil
            case hoc12b4x => (simp only [List.getElem?_toArray, List.getElem?_cons_succ, List.getElem?_cons_zero]; rfl)
            go_simp
            have hal : Below Wd.heap.size Wd (Wd.alloc (.cells #[.slice (some ⟨kb, ko + a, none⟩) 4 (kc - a)] 31)) := (Below.refl _ _).alloc (Nat.le_refl _) _
            refine hK.out _ _ (hS.trans (hal.mono hS.size)) (fun hHeld => ?_)
            clear hK K
            try simp only [Act.put, List.setIfInBounds_toArray, List.set_cons_succ, List.set_cons_zero]
            obtain ⟨q1, c1, w1, hrun, hg1, hbw, hns1⟩ := hns.push LG2.out WG.out (by omega) _ _ hwi
            have HRUN := Lib.hid hrun
            have HG1 := Lib.hid hg1
            have HBW := Lib.hid hbw
            have HNS1 := Lib.hid hns1
            have hns := hns.below hal
            clear hS
            have hS := hHeld
            clear hHeld
            clear hrun hg1 hbw hns1 hwi
            generalize Wd.heap.size = gn at *
            generalize (Wd.alloc (.cells #[.slice (some ⟨kb, ko + a, none⟩) 4 (kc - a)] 31)) = Wb4x12x at *
            refine wpAnyH_ready (rs := [13]) (by kernel_rfl) (by simp) ?_
            refine' AllReadyH.cons ?hoc13b4x12x (fun K hK => ?stc13b4x12x) AllReadyH.nil
            case hoc13b4x12x => (simp only [List.getElem?_toArray, List.getElem?_cons_succ, List.getElem?_cons_zero]; rfl)
            refine step_appV rfl _ _ rfl rfl rfl rfl HRUN.out ?_
            refine hK.out _ _ HBW.out (fun hHeld => ?_)
            clear hK K
            try simp only [Act.put, List.setIfInBounds_toArray, List.set_cons_succ, List.set_cons_zero]
            clear hS
            have hS := hHeld
            clear hHeld
            refine' wpAnyH_take (i := 14) ?h1x14b4x12x ?hsx14b4x12x ?hfx14b4x12x ?hrx14b4x12x ?hQx14b4x12x (Or.inl ⟨?hwx14b4x12x, ?hyx14b4x12x⟩) hS ?restx14b4x12x
            case h1x14b4x12x => (simp only [List.getElem?_toArray, List.getElem?_cons_succ, List.getElem?_cons_zero]; rfl)
            case hsx14b4x12x | hfx14b4x12x | hrx14b4x12x => kernel_rfl
            case hQx14b4x12x => exact fun _ _ _ h => h
            case hwx14b4x12x => rfl
            case hyx14b4x12x =>
              intro W hW
              go_simp
              try with_reducible rfl
            simp only [Act.put, List.setIfInBounds_toArray, List.set_cons_succ, List.set_cons_zero]
            refine' wpAnyH_take (i := 15) ?h1x15b4x12x ?hsx15b4x12x ?hfx15b4x12x ?hrx15b4x12x ?hQx15b4x12x (Or.inl ⟨?hwx15b4x12x, ?hyx15b4x12x⟩) hS ?restx15b4x12x
            case h1x15b4x12x => (simp only [List.getElem?_toArray, List.getElem?_cons_succ, List.getElem?_cons_zero]; rfl)
            case hsx15b4x12x | hfx15b4x12x | hrx15b4x12x => kernel_rfl
            case hQx15b4x12x => exact fun _ _ _ h => h
            case hwx15b4x12x => rfl
            case hyx15b4x12x =>
              intro W hW
              go_simp
              try with_reducible rfl
            simp only [Act.put, List.setIfInBounds_toArray, List.set_cons_succ, List.set_cons_zero]
            refine wpAnyH_ready (rs := [16]) (by kernel_rfl) (by simp) ?_
            refine' AllReadyH.cons ?hoc16b4x12x (fun K hK => ?stc16b4x12x) AllReadyH.nil
            case hoc16b4x12x => (simp only [List.getElem?_toArray, List.getElem?_cons_succ, List.getElem?_cons_zero]; rfl)
            have dd : w1.cell? ⟨g, 0, none⟩ = some (.slice q n c) := cell_of_row _ _ 0 _ _ _ HG1.out
            have df := frozen_of_row w1 g 0 _ 91 HG1.out
            go_simp
            refine hK.out _ _ (HBW.out.setCell WG.out _) (fun hHeld => ?_)
            clear hK K dd df
            try simp only [Act.put, List.setIfInBounds_toArray, List.set_cons_succ, List.set_cons_zero]
            refine wpAnyH_done (by kernel_rfl) ?_ _
            go_wp2_with fail
            go_roundw
            case rel => exact ⟨n + 1, q1, c1, _, by omega, by go_num, HNS1.out⟩
            case measure => simp [intOf]; omega
          case stc12b =>
            go_simp
            have hal : Below Wd.heap.size Wd (Wd.alloc (.cells #[.slice (some ⟨kb, ko + a, none⟩) 4 (kc - a)] 31)) := (Below.refl _ _).alloc (Nat.le_refl _) _
            refine hK.out _ _ (hS.trans (hal.mono hS.size)) (fun hHeld => ?_)
            clear hK K
            try simp only [Act.put, List.setIfInBounds_toArray, List.set_cons_succ, List.set_cons_zero]
            obtain ⟨q1, c1, w1, hrun, hg1, hbw, hns1⟩ := hns.push LG2.out WG.out (by omega) _ _ hwi
            have HRUN := Lib.hid hrun
            have HG1 := Lib.hid hg1
            have HBW := Lib.hid hbw
            have HNS1 := Lib.hid hns1
            have hns := hns.below hal
            clear hS
            have hS := hHeld
            clear hHeld
            clear hrun hg1 hbw hns1 hwi
            generalize Wd.heap.size = gn at *
            generalize (Wd.alloc (.cells #[.slice (some ⟨kb, ko + a, none⟩) 4 (kc - a)] 31)) = Wb12x at *
            refine wpAnyH_ready (rs := [4]) (by kernel_rfl) (by simp) ?_
            refine' AllReadyH.cons ?hoc4b12x (fun K hK => ?stc4b12x) AllReadyH.nil
            case hoc4b12x => (simp only [List.getElem?_toArray, List.getElem?_cons_succ, List.getElem?_cons_zero]; rfl)
            have dd : Wb12x.cell? ⟨g, 0, none⟩ = some (.slice q n c) := cell_of_row _ _ 0 _ _ _ hns.1
            go_simp
            refine hK.out _ _ hS (fun hHeld => ?_)
            clear hK K dd
            try simp only [Act.put, List.setIfInBounds_toArray, List.set_cons_succ, List.set_cons_zero]
            clear hS
            have hS := hHeld
            clear hHeld
            refine wpAnyH_ready (rs := [13]) (by kernel_rfl) (by simp) ?_
            refine' AllReadyH.cons ?hoc13b12x4x (fun K hK => ?stc13b12x4x) AllReadyH.nil
            case hoc13b12x4x => (simp only [List.getElem?_toArray, List.getElem?_cons_succ, List.getElem?_cons_zero]; rfl)
            refine step_appV rfl _ _ rfl rfl rfl rfl HRUN.out ?_
            refine hK.out _ _ HBW.out (fun hHeld => ?_)
            clear hK K
            try simp only [Act.put, List.setIfInBounds_toArray, List.set_cons_succ, List.set_cons_zero]
            clear hS
            have hS := hHeld
            clear hHeld
            refine' wpAnyH_take (i := 14) ?h1x14b12x4x ?hsx14b12x4x ?hfx14b12x4x ?hrx14b12x4x ?hQx14b12x4x (Or.inl ⟨?hwx14b12x4x, ?hyx14b12x4x⟩) hS ?restx14b12x4x
            case h1x14b12x4x => (simp only [List.getElem?_toArray, List.getElem?_cons_succ, List.getElem?_cons_zero]; rfl)
            case hsx14b12x4x | hfx14b12x4x | hrx14b12x4x => kernel_rfl
            case hQx14b12x4x => exact fun _ _ _ h => h
            case hwx14b12x4x => rfl
            case hyx14b12x4x =>
              intro W hW
              go_simp
              try with_reducible rfl
            simp only [Act.put, List.setIfInBounds_toArray, List.set_cons_succ, List.set_cons_zero]
            refine' wpAnyH_take (i := 15) ?h1x15b12x4x ?hsx15b12x4x ?hfx15b12x4x ?hrx15b12x4x ?hQx15b12x4x (Or.inl ⟨?hwx15b12x4x, ?hyx15b12x4x⟩) hS ?restx15b12x4x
            case h1x15b12x4x => (simp only [List.getElem?_toArray, List.getElem?_cons_succ, List.getElem?_cons_zero]; rfl)
            case hsx15b12x4x | hfx15b12x4x | hrx15b12x4x => kernel_rfl
            case hQx15b12x4x => exact fun _ _ _ h => h
            case hwx15b12x4x => rfl
            case hyx15b12x4x =>
              intro W hW
              go_simp
              try with_reducible rfl
            simp only [Act.put, List.setIfInBounds_toArray, List.set_cons_succ, List.set_cons_zero]
            refine wpAnyH_ready (rs := [16]) (by kernel_rfl) (by simp) ?_
            refine' AllReadyH.cons ?hoc16b12x4x (fun K hK => ?stc16b12x4x) AllReadyH.nil
            case hoc16b12x4x => (simp only [List.getElem?_toArray, List.getElem?_cons_succ, List.getElem?_cons_zero]; rfl)
            have dd : w1.cell? ⟨g, 0, none⟩ = some (.slice q n c) := cell_of_row _ _ 0 _ _ _ HG1.out
            have df := frozen_of_row w1 g 0 _ 91 HG1.out
            go_simp
            refine hK.out _ _ (HBW.out.setCell WG.out _) (fun hHeld => ?_)
            clear hK K dd df
            try simp only [Act.put, List.setIfInBounds_toArray, List.set_cons_succ, List.set_cons_zero]
            refine wpAnyH_done (by kernel_rfl) ?_ _
            go_wp2_with fail
            go_roundw
            case rel => exact ⟨n + 1, q1, c1, _, by omega, by go_num, HNS1.out⟩
            case measure => simp [intOf]; omega
        · have hn8e : n = 8 := by omega
          have hnl2 : ¬ (n : Int) < 8 := by omega
          rw [hn8e] at hns
          clear hn8e hlt hn8
          have NS3 := Lib.hid hns
          clear hns
          go_wp2_with fail
          go_loopw [6, 7] (fun vi _ wr => ∃ (n : Nat) (q : Option Addr) (c : Nat) (xs : List Value), 8 ≤ n ∧ n ≤ 60 ∧ vi = .int .i64 n ∧ NS w W2 g vb vk key n q c xs wr) (fun vi _ _ => 60 - (intOf vi).toNat)
          case atStart => exact ⟨8, _, _, _, by omega, by omega, rfl, NS3.out⟩
          case round =>
            clear NS3
            obtain ⟨n, q, c, xs, hn8, hn60, rfl, hns⟩ := hrel
            by_cases hlt : n < 60
            · have hi60 : (n : Int) < 60 := by omega
              have hi8 : (8 : Int) ≤ (n : Int) := by omega
              obtain ⟨gw, rfl, hword⟩ := hns.word (by omega)
              obtain ⟨p, hp⟩ : ∃ p, p = n - 1 := ⟨_, rfl⟩
              obtain ⟨m, hm⟩ : ∃ m, m = n - 8 := ⟨_, rfl⟩
              obtain ⟨x, c', hxc, hxw⟩ := hword p (by omega)
              have hp1 : (n : Int) - 1 = (p : Int) := by omega
              have hpn : p < n := by omega
              have EM : Hid ((n : Int) - 8 = (m : Int) ∧ IntKind.i64.wrap (m : Int) = (m : Int) ∧ IntKind.i64.wrap ((n : Int) - 8) = (m : Int)) := ⟨by omega, IntWalk.i64_in _ (by omega), by rw [IntWalk.i64_in _ (by omega)]; omega⟩
              have EX : Hid (m < n) := by show _ < _; omega
              have LNX : Hid (lat (wk key 60) n = xorl 4 (lat (wk key 60) m) (addw (lat (wk key 60) p) n)) := by show _ = _; rw [hm, hp]; exact lat_next key n hn8 hlt
              have L8 : Hid (Bts 4 (lat (wk key 60) m)) := nextw_bts4 HK.out m (by omega)
              have LP : Hid (Bts 4 (lat (wk key 60) p)) := nextw_bts4 HK.out p (by omega)
              have L9 : Hid ((lat (wk key 60) n).length = 4) := (nextw_bts4 HK.out n hlt).1
              have HAD : Hid (Bts 4 (addw (lat (wk key 60) p) n)) := addw_bts LP.out n
              have c0 : wr.cell? ⟨g, 0, none⟩ = some (.slice (some ⟨gw, 0, none⟩) n c) := cell_of_row _ _ 0 _ _ _ hns.1
              have HNSr := Lib.hid hns
              have HXW := Lib.hid hxw
              obtain ⟨r, hr⟩ : ∃ r, r = n % 8 := ⟨_, rfl⟩
              have hr1 : (n : Int) % 8 = (r : Int) := by omega
              have HRR := Lib.hid hr
              have HPP := Lib.hid hp
              have VBW : Hid (Sees wr (.slice (some ⟨gb, ob, none⟩) 256 cb) bxs) := hns.re SB.out (fun k hk => by simp [Value.ownBlock] at hk; rw [← hk]; exact NE.out)
              have C1W : Hid (wr.cell? ⟨g, 1, none⟩ = some (.slice (some ⟨gb, ob, none⟩) 256 cb)) := by rw [← HVB.out]; exact cell_of_row _ _ 1 _ _ _ hns.1
              generalize hPL : lat (wk key 60) p = l at *
              have hPLc := hPL
              clear hns hxw hword hp hm hr hPL hPLc
              by_cases h0 : r = 0
              · have q0 : ((r : Int) == 0) = true := by simp; omega
                have AW : Hid (addw l n = (boxl [at_ l 1, at_ l 2, at_ l 3, at_ l 0]).set 0 (Nat.xor (box (at_ l 1)) (npow 2 (n / 8 - 1)))) := addw_0 l n (by have := HRR.out; omega)
                obtain ⟨bx, ox, rfl, _, _, _, hcx⟩ := HXW.out.1.at16 (by rw [LP.out.1]; omega)
                obtain ⟨B, hB⟩ : ∃ B, B = boxl [at_ l 1, at_ l 2, at_ l 3, at_ l 0] := ⟨_, rfl⟩
                have BL0 : Hid ((boxl [at_ l 1, at_ l 2, at_ l 3, at_ l 0]).length = 4) := by show _ = _; rw [boxl_len]; rfl
                have BL : Hid (B.length = 4) := by show _ = _; rw [hB]; exact BL0.out
                have B0 : Hid (at_ B 0 = box (at_ l 1)) := by show _ = _; rw [hB]; rfl
                have BE := Lib.hid hB
                clear hB
                have CX : Hid (∀ i, i < 4 → wr.cell? ⟨bx, ox + i, none⟩ = some (.int .u8 (at_ l i : Nat))) := fun i hi => hcx i (by rw [LP.out.1]; exact hi)
                have LBX : Hid (bx < wr.heap.size) := World.block_lt_of_cell? wr _ (CX.out 0 (by omega))
                rename_i u1 u2 u3
                clear u1 u2 u3 hcx
                clear h0
                go_wp2_with fail
                clear c0 hxc
                refine wp_region_held_drew (S := fun W => Below wr.heap.size wr W) (by kernel_rfl) (Below.refl _ _).drew (fun hS => ?_)
                refine' wpAnyH_take (i := 0) ?h1x0c ?hsx0c ?hfx0c ?hrx0c ?hQx0c (Or.inl ⟨?hwx0c, ?hyx0c⟩) hS ?restx0c
                case h1x0c => (simp only [List.getElem?_toArray, List.getElem?_cons_zero]; rfl)
                case hsx0c | hfx0c | hrx0c => kernel_rfl
                case hQx0c => exact fun _ _ _ h => h
                case hwx0c => rfl
                case hyx0c =>
                  intro W hW
                  go_simp
                  try with_reducible rfl
                simp only [Act.put, List.setIfInBounds_toArray, List.set_cons_succ, List.set_cons_zero]
                refine' wpAnyH_take (i := 1) ?h1x1c ?hsx1c ?hfx1c ?hrx1c ?hQx1c (Or.inl ⟨?hwx1c, ?hyx1c⟩) hS ?restx1c
                case h1x1c => (simp only [List.getElem?_toArray, List.getElem?_cons_succ, List.getElem?_cons_zero]; rfl)
                case hsx1c | hfx1c | hrx1c => kernel_rfl
                case hQx1c => exact fun _ _ _ h => h
                case hwx1c => rfl
                case hyx1c =>
                  intro W hW
                  go_simp
                  try with_reducible rfl
                simp only [Act.put, List.setIfInBounds_toArray, List.set_cons_succ, List.set_cons_zero]
                refine' wpAnyH_take (i := 2) ?h1x2c ?hsx2c ?hfx2c ?hrx2c ?hQx2c (Or.inl ⟨?hwx2c, ?hyx2c⟩) hS ?restx2c
                case h1x2c => (simp only [List.getElem?_toArray, List.getElem?_cons_succ, List.getElem?_cons_zero]; rfl)
                case hsx2c | hfx2c | hrx2c => kernel_rfl
                case hQx2c => exact fun _ _ _ h => h
                case hwx2c => rfl
                case hyx2c =>
                  intro W hW
                  go_simp
                  try with_reducible rfl
                simp only [Act.put, List.setIfInBounds_toArray, List.set_cons_succ, List.set_cons_zero]
                refine' wpAnyH_take (i := 3) ?h1x3c ?hsx3c ?hfx3c ?hrx3c ?hQx3c (Or.inl ⟨?hwx3c, ?hyx3c⟩) hS ?restx3c
                case h1x3c => (simp only [List.getElem?_toArray, List.getElem?_cons_succ, List.getElem?_cons_zero]; rfl)
                case hsx3c | hfx3c | hrx3c => kernel_rfl
                case hQx3c => exact fun _ _ _ h => h
                case hwx3c => rfl
                case hyx3c =>
                  intro W hW
                  have dd := (hW.cell (p := ⟨bx, ox + 1, none⟩) LBX.out).trans (CX.out 1 (by omega))
                  go_simp
                  try with_reducible rfl
                simp only [Act.put, List.setIfInBounds_toArray, List.set_cons_succ, List.set_cons_zero]
                refine' wpAnyH_take (i := 4) ?h1x4c ?hsx4c ?hfx4c ?hrx4c ?hQx4c (Or.inl ⟨?hwx4c, ?hyx4c⟩) hS ?restx4c
                case h1x4c => (simp only [List.getElem?_toArray, List.getElem?_cons_succ, List.getElem?_cons_zero]; rfl)
                case hsx4c | hfx4c | hrx4c => kernel_rfl
                case hQx4c => exact fun _ _ _ h => h
                case hwx4c => rfl
                case hyx4c =>
                  intro W hW
                  go_simp
                  try with_reducible rfl
                simp only [Act.put, List.setIfInBounds_toArray, List.set_cons_succ, List.set_cons_zero]
                refine' wpAnyH_take (i := 5) ?h1x5c ?hsx5c ?hfx5c ?hrx5c ?hQx5c (Or.inl ⟨?hwx5c, ?hyx5c⟩) hS ?restx5c
                case h1x5c => (simp only [List.getElem?_toArray, List.getElem?_cons_succ, List.getElem?_cons_zero]; rfl)
                case hsx5c | hfx5c | hrx5c => kernel_rfl
                case hQx5c => exact fun _ _ _ h => h
                case hwx5c => rfl
                case hyx5c =>
                  intro W hW
                  go_simp
                  try with_reducible rfl
                simp only [Act.put, List.setIfInBounds_toArray, List.set_cons_succ, List.set_cons_zero]
                refine' wpAnyH_take (i := 6) ?h1x6c ?hsx6c ?hfx6c ?hrx6c ?hQx6c (Or.inl ⟨?hwx6c, ?hyx6c⟩) hS ?restx6c
                case h1x6c => (simp only [List.getElem?_toArray, List.getElem?_cons_succ, List.getElem?_cons_zero]; rfl)
                case hsx6c | hfx6c | hrx6c => kernel_rfl
                case hQx6c => exact fun _ _ _ h => h
                case hwx6c => rfl
                case hyx6c =>
                  intro W hW
                  have dd := (hW.cell (p := ⟨bx, ox + 2, none⟩) LBX.out).trans (CX.out 2 (by omega))
                  go_simp
                  try with_reducible rfl
                simp only [Act.put, List.setIfInBounds_toArray, List.set_cons_succ, List.set_cons_zero]
                refine' wpAnyH_take (i := 7) ?h1x7c ?hsx7c ?hfx7c ?hrx7c ?hQx7c (Or.inl ⟨?hwx7c, ?hyx7c⟩) hS ?restx7c
                case h1x7c => (simp only [List.getElem?_toArray, List.getElem?_cons_succ, List.getElem?_cons_zero]; rfl)
                case hsx7c | hfx7c | hrx7c => kernel_rfl
                case hQx7c => exact fun _ _ _ h => h
                case hwx7c => rfl
                case hyx7c =>
                  intro W hW
                  go_simp
                  try with_reducible rfl
                simp only [Act.put, List.setIfInBounds_toArray, List.set_cons_succ, List.set_cons_zero]
                refine' wpAnyH_take (i := 8) ?h1x8c ?hsx8c ?hfx8c ?hrx8c ?hQx8c (Or.inl ⟨?hwx8c, ?hyx8c⟩) hS ?restx8c
                case h1x8c => (simp only [List.getElem?_toArray, List.getElem?_cons_succ, List.getElem?_cons_zero]; rfl)
                case hsx8c | hfx8c | hrx8c => kernel_rfl
                case hQx8c => exact fun _ _ _ h => h
                case hwx8c => rfl
                case hyx8c =>
                  intro W hW
                  go_simp
                  try with_reducible rfl
                simp only [Act.put, List.setIfInBounds_toArray, List.set_cons_succ, List.set_cons_zero]
                refine' wpAnyH_take (i := 9) ?h1x9c ?hsx9c ?hfx9c ?hrx9c ?hQx9c (Or.inl ⟨?hwx9c, ?hyx9c⟩) hS ?restx9c
                case h1x9c => (simp only [List.getElem?_toArray, List.getElem?_cons_succ, List.getElem?_cons_zero]; rfl)
                case hsx9c | hfx9c | hrx9c => kernel_rfl
                case hQx9c => exact fun _ _ _ h => h
                case hwx9c => rfl
                case hyx9c =>
                  intro W hW
                  have dd := (hW.cell (p := ⟨bx, ox + 3, none⟩) LBX.out).trans (CX.out 3 (by omega))
                  go_simp
                  try with_reducible rfl
                simp only [Act.put, List.setIfInBounds_toArray, List.set_cons_succ, List.set_cons_zero]
                refine' wpAnyH_take (i := 10) ?h1x10c ?hsx10c ?hfx10c ?hrx10c ?hQx10c (Or.inl ⟨?hwx10c, ?hyx10c⟩) hS ?restx10c
                case h1x10c => (simp only [List.getElem?_toArray, List.getElem?_cons_succ, List.getElem?_cons_zero]; rfl)
                case hsx10c | hfx10c | hrx10c => kernel_rfl
                case hQx10c => exact fun _ _ _ h => h
                case hwx10c => rfl
                case hyx10c =>
                  intro W hW
                  go_simp
                  try with_reducible rfl
                simp only [Act.put, List.setIfInBounds_toArray, List.set_cons_succ, List.set_cons_zero]
                refine' wpAnyH_take (i := 11) ?h1x11c ?hsx11c ?hfx11c ?hrx11c ?hQx11c (Or.inl ⟨?hwx11c, ?hyx11c⟩) hS ?restx11c
                case h1x11c => (simp only [List.getElem?_toArray, List.getElem?_cons_succ, List.getElem?_cons_zero]; rfl)
                case hsx11c | hfx11c | hrx11c => kernel_rfl
                case hQx11c => exact fun _ _ _ h => h
                case hwx11c => rfl
                case hyx11c =>
                  intro W hW
                  go_simp
                  try with_reducible rfl
                simp only [Act.put, List.setIfInBounds_toArray, List.set_cons_succ, List.set_cons_zero]
                refine' wpAnyH_take (i := 12) ?h1x12c ?hsx12c ?hfx12c ?hrx12c ?hQx12c (Or.inl ⟨?hwx12c, ?hyx12c⟩) hS ?restx12c
                case h1x12c => (simp only [List.getElem?_toArray, List.getElem?_cons_succ, List.getElem?_cons_zero]; rfl)
                case hsx12c | hfx12c | hrx12c => kernel_rfl
                case hQx12c => exact fun _ _ _ h => h
                case hwx12c => rfl
                case hyx12c =>
                  intro W hW
                  have dd := (hW.cell (p := ⟨bx, ox, none⟩) LBX.out).trans (CX.out 0 (by omega))
                  go_simp
                  try with_reducible rfl
                simp only [Act.put, List.setIfInBounds_toArray, List.set_cons_succ, List.set_cons_zero]
                refine wpAnyH_ready (rs := [13]) (by kernel_rfl) (by simp) ?_
                refine' AllReadyH.cons ?hoc13c (fun K hK => ?stc13c) AllReadyH.nil
                case hoc13c => (simp only [List.getElem?_toArray, List.getElem?_cons_succ, List.getElem?_cons_zero]; rfl)
                go_simp
                refine hK.out _ _ (hS.alloc hS.size _) (fun hHeld => ?_)
                clear hK K
                try simp only [Act.put, List.setIfInBounds_toArray, List.set_cons_succ, List.set_cons_zero]
                have hz := heap_alloc_new wr (.cells #[.int .u8 (at_ l 1 : Nat), .int .u8 (at_ l 2 : Nat), .int .u8 (at_ l 3 : Nat), .int .u8 (at_ l 0 : Nat)] 5)
                have s4 : Sees (wr.drew.alloc (.cells #[.int .u8 (at_ l 1 : Nat), .int .u8 (at_ l 2 : Nat), .int .u8 (at_ l 3 : Nat), .int .u8 (at_ l 0 : Nat)] 5)) (.slice (some ⟨wr.heap.size, 0, none⟩) 4 4) [at_ l 1, at_ l 2, at_ l 3, at_ l 0] :=
                  sees_row _ _ _ (fun z hz => by simp at hz; have h0 := LP.out.at_lt 0; have h1 := LP.out.at_lt 1; have h2 := LP.out.at_lt 2; have h3 := LP.out.at_lt 3; omega) (by simp [maxLen]) (t := 5) (fr := (0, 0)) hz 4 rfl
                clear hS hz
                have hS := hHeld
                clear hHeld
                refine wpAnyH_ready (rs := [14]) (by kernel_rfl) (by simp) ?_
                refine' AllReadyH.cons ?hoc14c (fun K hK => ?stc14c) AllReadyH.nil
                case hoc14c => (simp only [List.getElem?_toArray, List.getElem?_cons_succ, List.getElem?_cons_zero]; rfl)
                go_simp
                refine (refBoxed g _ cb _ 4 4 _ _ rfl (by omega) ((hS.cell (p := ⟨g, 1, none⟩) (World.block_lt_of_cell? wr _ C1W.out)).trans C1W.out) (VBW.out.below hS) s4).mono ?_
                rintro e w5 ⟨q7, c7, rfl, ho7, hb⟩
                rw [BL0.out] at ho7 ⊢
                have HO7 := Lib.hid ho7
                have HB5 := Lib.hid (hS.trans (hb.mono hS.size))
                have HSZ5 := Lib.hid hS.size
                go_wp2_with fail
                refine hK.out _ _ (hS.trans (hb.mono hS.size)) (fun hHeld => ?_)
                clear hK K s4 ho7
                try simp only [Act.put, List.setIfInBounds_toArray, List.set_cons_succ, List.set_cons_zero]
                clear hS hb
                have hS := hHeld
                clear hHeld
                refine' wpAnyH_take (i := 15) ?h1x15c ?hsx15c ?hfx15c ?hrx15c ?hQx15c (Or.inl ⟨?hwx15c, ?hyx15c⟩) hS ?restx15c
                case h1x15c => (simp only [List.getElem?_toArray, List.getElem?_cons_succ, List.getElem?_cons_zero]; rfl)
                case hsx15c | hfx15c | hrx15c => kernel_rfl
                case hQx15c => exact fun _ _ _ h => h
                case hwx15c => rfl
                case hyx15c =>
                  intro W hW
                  go_simp
                  try with_reducible rfl
                simp only [Act.put, List.setIfInBounds_toArray, List.set_cons_succ, List.set_cons_zero]
                refine wpAnyH_done (by kernel_rfl) ?_ _
                obtain ⟨m8, hm8⟩ : ∃ m8, m8 = n / 8 := ⟨_, rfl⟩
                obtain ⟨e8, he8⟩ : ∃ e8, e8 = n / 8 - 1 := ⟨_, rfl⟩
                obtain ⟨z, hz⟩ : ∃ z, z = Nat.xor (box (at_ l 1)) (npow 2 (n / 8 - 1)) := ⟨_, rfl⟩
                have hb1 : box (at_ l 1) < 256 := box_lt (LP.out.at_lt 1)
                have hp1' : npow 2 e8 < 256 := npow_lt (by omega) e8
                have hz256 : z < 256 := by rw [hz]; exact Nat.xor_lt_two_pow (n := 8) hb1 (by rw [← he8]; exact hp1')
                have XZ : Hid (bits .xor .u8 ((at_ B 0 : Nat) : Int) ((npow 2 e8 : Nat) : Int) = (z : Int)) := by
                  show _ = _
                  rw [B0.out, xor8 _ _ hb1 hp1', he8, ← hz]
                have AZ : Hid (addw l n = B.set 0 z) := by show _ = _; rw [AW.out, ← hz, BE.out]
                have PW : Hid (∀ W, Calls Tryz.prog 52 #[.int .u8 2, .int .i64 e8] W fun e w' => e = .returned (.int .u8 (npow 2 e8 : Nat)) ∧ w' = W) := fun W => (refPower 2 e8 (by omega) (by omega) W).mono fun e w' ⟨a, b⟩ => ⟨a, b.symm⟩
                have EM1 : Hid ((n : Int).tdiv 8 = (m8 : Int)) := by show _ = _; rw [Int.tdiv_eq_ediv_of_nonneg (by omega)]; omega
                have EM2 : Hid (IntKind.i64.wrap (m8 : Int) = (m8 : Int)) := IntWalk.i64_in _ (by omega)
                have EM3 : Hid (IntKind.i64.wrap ((m8 : Int) - 1) = (e8 : Int)) := by show _ = _; rw [IntWalk.i64_in _ (by omega)]; omega
                rw [← BE.out] at HO7
                obtain ⟨g7, hq7⟩ : ∃ g7, q7 = some ⟨g7, 0, none⟩ := by
                  rcases HO7.out.2.2 with ⟨h1, h2⟩ | ⟨g', cap', cur, h1, _⟩
                  · simp at h1
                  · simp only [Value.slice.injEq] at h1; exact ⟨g', h1.1⟩
                subst hq7
                obtain ⟨base, hbase, HO7d⟩ : ∃ base, wr.heap.size ≤ base ∧ Own w5.drew base (.slice (some ⟨g7, 0, none⟩) B.length c7) B := ⟨_, HSZ5.out, by rw [BL.out]; exact HO7.out.drew⟩
                obtain ⟨os1, os2, os3, os4⟩ := own_set HO7d (k := 0) (by have := BL.out; omega) z hz256
                rw [BL.out, ← AZ.out] at os1
                have HG7 : Hid (wr.heap.size ≤ g7) := Nat.le_trans hbase os4
                have HNS : Hid (NS w W2 g vb vk key n (some ⟨gw, 0, none⟩) c xs (w5.drew.setCell ⟨g7, 0, none⟩ (.int .u8 (z : Nat)))) := HNSr.out.below (HB5.out.drew.setCell HG7.out _)
                have H7 : Hid (Sees (w5.drew.setCell ⟨g7, 0, none⟩ (.int .u8 (z : Nat))) (.slice (some ⟨g7, 0, none⟩) 4 c7) (addw l n)) := os1.sees
                have HA := HAD
                have LN := LNX
                have cz := os2
                have fz := os3
                clear os1 os2 os3 os4 HO7d hbase HO7 HB5 HSZ5 HNSr HXW C1W VBW hS hm8 he8 hz hb1 hp1' hz256
                go_wp2_with fail
                have hm1 := EM1.out
                have hm2 := EM2.out
                have hm3 := EM3.out
                have hx := XZ.out
                refine wp_region_still_tail 10 (by kernel_rfl) (by kernel_rfl) ?_
                simp only [List.take_succ_cons, List.take_zero, List.drop_succ_cons, List.drop_zero]
                iterate 7 still_step
                still_call (PW.out _)
                iterate 2 still_step
                refine wpStill_nil ?_
                change wpList _ _ _ _ _ w5.drew
                clear hm1 hm2 hm3
                generalize w5.drew = wd at *
                go_wp2_with fail
                clear hx cz fz
                generalize wd.setCell ⟨g7, 0, none⟩ (.int .u8 (z : Nat)) = w6 at *
                refine wp_region_held_drew (S := fun W => Below w.heap.size w W) (by kernel_rfl) HNS.out.2.2.2.2.2.1.drew (fun hS => ?_)
                refine' wpAnyH_take (i := 0) ?h1x0f ?hsx0f ?hfx0f ?hrx0f ?hQx0f (Or.inl ⟨?hwx0f, ?hyx0f⟩) hS ?restx0f
                case h1x0f => (simp only [List.getElem?_toArray, List.getElem?_cons_zero]; rfl)
                case hsx0f | hfx0f | hrx0f => kernel_rfl
                case hQx0f => exact fun _ _ _ h => h
                case hwx0f => rfl
                case hyx0f =>
                  intro W hW
                  go_simp
                  try with_reducible rfl
                simp only [Act.put, List.setIfInBounds_toArray, List.set_cons_succ, List.set_cons_zero]
                refine' wpAnyH_take (i := 1) ?h1x1f ?hsx1f ?hfx1f ?hrx1f ?hQx1f (Or.inl ⟨?hwx1f, ?hyx1f⟩) hS ?restx1f
                case h1x1f => (simp only [List.getElem?_toArray, List.getElem?_cons_succ, List.getElem?_cons_zero]; rfl)
                case hsx1f | hfx1f | hrx1f => kernel_rfl
                case hQx1f => exact fun _ _ _ h => h
                case hwx1f => rfl
                case hyx1f =>
                  intro W hW
                  go_simp
                  try with_reducible rfl
                simp only [Act.put, List.setIfInBounds_toArray, List.set_cons_succ, List.set_cons_zero]
                refine' wpAnyH_take (i := 2) ?h1x2f ?hsx2f ?hfx2f ?hrx2f ?hQx2f (Or.inl ⟨?hwx2f, ?hyx2f⟩) hS ?restx2f
                case h1x2f => (simp only [List.getElem?_toArray, List.getElem?_cons_succ, List.getElem?_cons_zero]; rfl)
                case hsx2f | hfx2f | hrx2f => kernel_rfl
                case hQx2f => exact fun _ _ _ h => h
                case hwx2f => rfl
                case hyx2f =>
                  intro W hW
                  go_simp
                  try with_reducible rfl
                simp only [Act.put, List.setIfInBounds_toArray, List.set_cons_succ, List.set_cons_zero]
                refine' wpAnyH_take (i := 3) ?h1x3f ?hsx3f ?hfx3f ?hrx3f ?hQx3f (Or.inl ⟨?hwx3f, ?hyx3f⟩) hS ?restx3f
                case h1x3f => (simp only [List.getElem?_toArray, List.getElem?_cons_succ, List.getElem?_cons_zero]; rfl)
                case hsx3f | hfx3f | hrx3f => kernel_rfl
                case hQx3f => exact fun _ _ _ h => h
                case hwx3f => rfl
                case hyx3f =>
                  intro W hW
                  go_simp
                  try with_reducible rfl
                simp only [Act.put, List.setIfInBounds_toArray, List.set_cons_succ, List.set_cons_zero]
                refine' wpAnyH_take (i := 5) ?h1x5f ?hsx5f ?hfx5f ?hrx5f ?hQx5f (Or.inl ⟨?hwx5f, ?hyx5f⟩) hS ?restx5f
                case h1x5f => (simp only [List.getElem?_toArray, List.getElem?_cons_succ, List.getElem?_cons_zero]; rfl)
                case hsx5f | hfx5f | hrx5f => kernel_rfl
                case hQx5f => exact fun _ _ _ h => h
                case hwx5f => rfl
                case hyx5f =>
                  intro W hW
                  go_simp
                  try with_reducible rfl
                simp only [Act.put, List.setIfInBounds_toArray, List.set_cons_succ, List.set_cons_zero]
                refine' wpAnyH_take (i := 6) ?h1x6f ?hsx6f ?hfx6f ?hrx6f ?hQx6f (Or.inl ⟨?hwx6f, ?hyx6f⟩) hS ?restx6f
                case h1x6f => (simp only [List.getElem?_toArray, List.getElem?_cons_succ, List.getElem?_cons_zero]; rfl)
                case hsx6f | hfx6f | hrx6f => kernel_rfl
                case hQx6f => exact fun _ _ _ h => h
                case hwx6f => rfl
                case hyx6f =>
                  intro W hW
                  go_simp
                  try with_reducible rfl
                simp only [Act.put, List.setIfInBounds_toArray, List.set_cons_succ, List.set_cons_zero]
                refine' wpAnyH_take (i := 7) ?h1x7f ?hsx7f ?hfx7f ?hrx7f ?hQx7f (Or.inl ⟨?hwx7f, ?hyx7f⟩) hS ?restx7f
                case h1x7f => (simp only [List.getElem?_toArray, List.getElem?_cons_succ, List.getElem?_cons_zero]; rfl)
                case hsx7f | hfx7f | hrx7f => kernel_rfl
                case hQx7f => exact fun _ _ _ h => h
                case hwx7f => rfl
                case hyx7f =>
                  intro W hW
                  go_simp
                  try with_reducible rfl
                simp only [Act.put, List.setIfInBounds_toArray, List.set_cons_succ, List.set_cons_zero]
                refine' wpAnyH_take (i := 9) ?h1x9f ?hsx9f ?hfx9f ?hrx9f ?hQx9f (Or.inl ⟨?hwx9f, ?hyx9f⟩) hS ?restx9f
                case h1x9f => (simp only [List.getElem?_toArray, List.getElem?_cons_succ, List.getElem?_cons_zero]; rfl)
                case hsx9f | hfx9f | hrx9f => kernel_rfl
                case hQx9f => exact fun _ _ _ h => h
                case hwx9f => rfl
                case hyx9f =>
                  intro W hW
                  go_simp
                  try with_reducible rfl
                simp only [Act.put, List.setIfInBounds_toArray, List.set_cons_succ, List.set_cons_zero]
                refine' wpAnyH_take (i := 10) ?h1x10f ?hsx10f ?hfx10f ?hrx10f ?hQx10f (Or.inl ⟨?hwx10f, ?hyx10f⟩) hS ?restx10f
                case h1x10f => (simp only [List.getElem?_toArray, List.getElem?_cons_succ, List.getElem?_cons_zero]; rfl)
                case hsx10f | hfx10f | hrx10f => kernel_rfl
                case hQx10f => exact fun _ _ _ h => h
                case hwx10f => rfl
                case hyx10f =>
                  intro W hW
                  have dd := EM.out
                  go_simp
                  try with_reducible rfl
                simp only [Act.put, List.setIfInBounds_toArray, List.set_cons_succ, List.set_cons_zero]
                refine' wpAnyH_take (i := 13) ?h1x13f ?hsx13f ?hfx13f ?hrx13f ?hQx13f (Or.inl ⟨?hwx13f, ?hyx13f⟩) hS ?restx13f
                case h1x13f => (simp only [List.getElem?_toArray, List.getElem?_cons_succ, List.getElem?_cons_zero]; rfl)
                case hsx13f | hfx13f | hrx13f => kernel_rfl
                case hQx13f => exact fun _ _ _ h => h
                case hwx13f => rfl
                case hyx13f =>
                  intro W hW
                  go_simp
                  try with_reducible rfl
                simp only [Act.put, List.setIfInBounds_toArray, List.set_cons_succ, List.set_cons_zero]
                generalize hWd : w6.drew = Wd at *
                have hns : NS w W2 g vb vk key n (some ⟨gw, 0, none⟩) c xs Wd := by rw [← hWd]; exact HNS.out.below (Below.refl _ _).drew
                have h7 : Sees Wd (.slice (some ⟨g7, 0, none⟩) 4 c7) (addw l n) := by rw [← hWd]; exact H7.out.below (Below.refl _ _).drew
                clear hWd
                refine wpAnyH_ready (rs := [4, 8]) (by kernel_rfl) (by simp) ?_
                refine' (AllReadyH.cons ?hoc4f (fun K hK => ?stc4f) (AllReadyH.cons ?hoc8f (fun K hK => ?stc8f) AllReadyH.nil))
                case hoc4f => (simp only [List.getElem?_toArray, List.getElem?_cons_succ, List.getElem?_cons_zero]; rfl)
                case hoc8f => (simp only [List.getElem?_toArray, List.getElem?_cons_succ, List.getElem?_cons_zero]; rfl)
                case stc4f =>
                  have dd : Wd.cell? ⟨g, 0, none⟩ = some (.slice (some ⟨gw, 0, none⟩) n c) := cell_of_row _ _ 0 _ _ _ hns.1
                  go_simp
                  refine hK.out _ _ hS (fun hHeld => ?_)
                  clear hK K dd
                  try simp only [Act.put, List.setIfInBounds_toArray, List.set_cons_succ, List.set_cons_zero]
                  clear hS
                  have hS := hHeld
                  clear hHeld
                  refine wpAnyH_ready (rs := [8]) (by kernel_rfl) (by simp) ?_
                  refine' AllReadyH.cons ?hoc8f4x (fun K hK => ?stc8f4x) AllReadyH.nil
                  case hoc8f4x => (simp only [List.getElem?_toArray, List.getElem?_cons_succ, List.getElem?_cons_zero]; rfl)
                  have dd : Wd.cell? ⟨g, 0, none⟩ = some (.slice (some ⟨gw, 0, none⟩) n c) := cell_of_row _ _ 0 _ _ _ hns.1
                  go_simp
                  refine hK.out _ _ hS (fun hHeld => ?_)
                  clear hK K dd
                  try simp only [Act.put, List.setIfInBounds_toArray, List.set_cons_succ, List.set_cons_zero]
                  clear hS
                  have hS := hHeld
                  clear hHeld
                  refine' wpAnyH_take (i := 11) ?h1x11f4x8x ?hsx11f4x8x ?hfx11f4x8x ?hrx11f4x8x ?hQx11f4x8x (Or.inl ⟨?hwx11f4x8x, ?hyx11f4x8x⟩) hS ?restx11f4x8x
                  case h1x11f4x8x => (simp only [List.getElem?_toArray, List.getElem?_cons_succ, List.getElem?_cons_zero]; rfl)
                  case hsx11f4x8x | hfx11f4x8x | hrx11f4x8x => kernel_rfl
                  case hQx11f4x8x => exact fun _ _ _ h => h
                  case hwx11f4x8x => rfl
                  case hyx11f4x8x =>
                    intro W hW
                    have dd := EX.out
                    go_simp
                    try with_reducible rfl
                  simp only [Act.put, List.setIfInBounds_toArray, List.set_cons_succ, List.set_cons_zero]
                  refine wpAnyH_ready (rs := [12]) (by kernel_rfl) (by simp) ?_
                  refine' AllReadyH.cons ?hoc12f4x8x (fun K hK => ?stc12f4x8x) AllReadyH.nil
                  case hoc12f4x8x => (simp only [List.getElem?_toArray, List.getElem?_cons_succ, List.getElem?_cons_zero]; rfl)
                  obtain ⟨gw2, hgw2, hword⟩ := hns.word (by omega)
                  have hgq : gw2 = gw := by simpa using hgw2.symm
                  subst gw2
                  obtain ⟨x8, c8, dd, hw8⟩ := hword m EX.out
                  clear hword hgw2
                  go_simp
                  refine hK.out _ _ hS (fun hHeld => ?_)
                  clear hK K dd
                  try simp only [Act.put, List.setIfInBounds_toArray, List.set_cons_succ, List.set_cons_zero]
                  clear hS
                  have hS := hHeld
                  clear hHeld
                  have HW8 := Lib.hid hw8
                  clear hw8
                  refine wpAnyH_ready (rs := [14]) (by kernel_rfl) (by simp) ?_
                  refine' AllReadyH.cons ?hoc14f4x8x12x (fun K hK => ?stc14f4x8x12x) AllReadyH.nil
                  case hoc14f4x8x12x => (simp only [List.getElem?_toArray, List.getElem?_cons_succ, List.getElem?_cons_zero]; rfl)
                  go_simp
                  refine (refXored x8 4 c8 (lat (wk key 60) m) (some ⟨g7, 0, none⟩) 4 c7 (addw l n) Wd (L8.out.1.symm) (HA.out.1.symm) (by omega) (Nat.le_refl _) HW8.out.1 h7).mono ?_
                  rintro e Wf4x8x12x14x ⟨q9, c9, rfl, ho9, hb⟩
                  rw [← LN.out] at ho9 ⊢
                  rw [L9.out] at ho9 ⊢
                  have hwi : WI w.heap.size Wf4x8x12x14x (.slice q9 4 c9) (lat (wk key 60) n) := ho9.wi
                  have hns := hns.below hb
                  go_wp2_with fail
                  refine hK.out _ _ (hS.trans (hb.mono hS.size)) (fun hHeld => ?_)
                  clear hK K ho9 HW8 h7
                  try simp only [Act.put, List.setIfInBounds_toArray, List.set_cons_succ, List.set_cons_zero]
                  clear hb
                  clear hS
                  have hS := hHeld
                  clear hHeld
                  refine wpAnyH_ready (rs := [15]) (by kernel_rfl) (by simp) ?_
                  refine' AllReadyH.cons ?hoc15f4x8x12x14x (fun K hK => ?stc15f4x8x12x14x) AllReadyH.nil
                  case hoc15f4x8x12x14x => (simp only [List.getElem?_toArray, List.getElem?_cons_succ, List.getElem?_cons_zero]; rfl)
                  go_simp
                  have hal : Below Wf4x8x12x14x.heap.size Wf4x8x12x14x (Wf4x8x12x14x.alloc (.cells #[.slice q9 4 c9] 31)) := (Below.refl _ _).alloc (Nat.le_refl _) _
                  refine hK.out _ _ (hS.trans (hal.mono hS.size)) (fun hHeld => ?_)
                  clear hK K
                  try simp only [Act.put, List.setIfInBounds_toArray, List.set_cons_succ, List.set_cons_zero]
                  obtain ⟨q1, c1, w1, hrun, hg1, hbw, hns1⟩ := hns.push LG2.out WG.out (by omega) _ _ hwi
                  have HRUN := Lib.hid hrun
                  have HG1 := Lib.hid hg1
                  have HBW := Lib.hid hbw
                  have HNS1 := Lib.hid hns1
                  have hns := hns.below hal
                  clear hS
                  have hS := hHeld
                  clear hHeld
                  clear hrun hg1 hbw hns1 hwi
                  generalize Wf4x8x12x14x.heap.size = gn at *
                  generalize (Wf4x8x12x14x.alloc (.cells #[.slice q9 4 c9] 31)) = Wf4x8x12x14x15x at *
                  refine wpAnyH_ready (rs := [16]) (by kernel_rfl) (by simp) ?_
                  refine' AllReadyH.cons ?hoc16f4x8x12x14x15x (fun K hK => ?stc16f4x8x12x14x15x) AllReadyH.nil
                  case hoc16f4x8x12x14x15x => (simp only [List.getElem?_toArray, List.getElem?_cons_succ, List.getElem?_cons_zero]; rfl)
                  refine step_appV rfl _ _ rfl rfl rfl rfl HRUN.out ?_
                  refine hK.out _ _ HBW.out (fun hHeld => ?_)
                  clear hK K
                  try simp only [Act.put, List.setIfInBounds_toArray, List.set_cons_succ, List.set_cons_zero]
                  clear hS
                  have hS := hHeld
                  clear hHeld
                  refine' wpAnyH_take (i := 17) ?h1x17f4x8x12x14x15x ?hsx17f4x8x12x14x15x ?hfx17f4x8x12x14x15x ?hrx17f4x8x12x14x15x ?hQx17f4x8x12x14x15x (Or.inl ⟨?hwx17f4x8x12x14x15x, ?hyx17f4x8x12x14x15x⟩) hS ?restx17f4x8x12x14x15x
                  case h1x17f4x8x12x14x15x => (simp only [List.getElem?_toArray, List.getElem?_cons_succ, List.getElem?_cons_zero]; rfl)
                  case hsx17f4x8x12x14x15x | hfx17f4x8x12x14x15x | hrx17f4x8x12x14x15x => kernel_rfl
                  case hQx17f4x8x12x14x15x => exact fun _ _ _ h => h
                  case hwx17f4x8x12x14x15x => rfl
                  case hyx17f4x8x12x14x15x =>
                    intro W hW
                    go_simp
                    try with_reducible rfl
                  simp only [Act.put, List.setIfInBounds_toArray, List.set_cons_succ, List.set_cons_zero]
                  refine' wpAnyH_take (i := 18) ?h1x18f4x8x12x14x15x ?hsx18f4x8x12x14x15x ?hfx18f4x8x12x14x15x ?hrx18f4x8x12x14x15x ?hQx18f4x8x12x14x15x (Or.inl ⟨?hwx18f4x8x12x14x15x, ?hyx18f4x8x12x14x15x⟩) hS ?restx18f4x8x12x14x15x
                  case h1x18f4x8x12x14x15x => (simp only [List.getElem?_toArray, List.getElem?_cons_succ, List.getElem?_cons_zero]; rfl)
                  case hsx18f4x8x12x14x15x | hfx18f4x8x12x14x15x | hrx18f4x8x12x14x15x => kernel_rfl
                  case hQx18f4x8x12x14x15x => exact fun _ _ _ h => h
                  case hwx18f4x8x12x14x15x => rfl
                  case hyx18f4x8x12x14x15x =>
                    intro W hW
                    go_simp
                    try with_reducible rfl
                  simp only [Act.put, List.setIfInBounds_toArray, List.set_cons_succ, List.set_cons_zero]
                  refine wpAnyH_ready (rs := [19]) (by kernel_rfl) (by simp) ?_
                  refine' AllReadyH.cons ?hoc19f4x8x12x14x15x (fun K hK => ?stc19f4x8x12x14x15x) AllReadyH.nil
                  case hoc19f4x8x12x14x15x => (simp only [List.getElem?_toArray, List.getElem?_cons_succ, List.getElem?_cons_zero]; rfl)
                  have dd : w1.cell? ⟨g, 0, none⟩ = some (.slice (some ⟨gw, 0, none⟩) n c) := cell_of_row _ _ 0 _ _ _ HG1.out
                  have df := frozen_of_row w1 g 0 _ 91 HG1.out
                  go_simp
                  refine hK.out _ _ (HBW.out.setCell WG.out _) (fun hHeld => ?_)
                  clear hK K dd df
                  try simp only [Act.put, List.setIfInBounds_toArray, List.set_cons_succ, List.set_cons_zero]
                  refine wpAnyH_done (by kernel_rfl) ?_ _
                  go_wp2_with fail
                  go_roundw
                  case rel => exact ⟨n + 1, q1, c1, _, by omega, by omega, by go_num, HNS1.out⟩
                  case measure => simp [intOf]; omega
                case stc8f =>
                  have dd : Wd.cell? ⟨g, 0, none⟩ = some (.slice (some ⟨gw, 0, none⟩) n c) := cell_of_row _ _ 0 _ _ _ hns.1
                  go_simp
                  refine hK.out _ _ hS (fun hHeld => ?_)
                  clear hK K dd
                  try simp only [Act.put, List.setIfInBounds_toArray, List.set_cons_succ, List.set_cons_zero]
                  clear hS
                  have hS := hHeld
                  clear hHeld
                  refine' wpAnyH_take (i := 11) ?h1x11f8x ?hsx11f8x ?hfx11f8x ?hrx11f8x ?hQx11f8x (Or.inl ⟨?hwx11f8x, ?hyx11f8x⟩) hS ?restx11f8x
                  case h1x11f8x => (simp only [List.getElem?_toArray, List.getElem?_cons_succ, List.getElem?_cons_zero]; rfl)
                  case hsx11f8x | hfx11f8x | hrx11f8x => kernel_rfl
                  case hQx11f8x => exact fun _ _ _ h => h
                  case hwx11f8x => rfl
                  case hyx11f8x =>
                    intro W hW
                    have dd := EX.out
                    go_simp
                    try with_reducible rfl
                  simp only [Act.put, List.setIfInBounds_toArray, List.set_cons_succ, List.set_cons_zero]
                  refine wpAnyH_ready (rs := [4, 12]) (by kernel_rfl) (by simp) ?_
                  refine' (AllReadyH.cons ?hoc4f8x (fun K hK => ?stc4f8x) (AllReadyH.cons ?hoc12f8x (fun K hK => ?stc12f8x) AllReadyH.nil))
                  case hoc4f8x => (simp only [List.getElem?_toArray, List.getElem?_cons_succ, List.getElem?_cons_zero]; rfl)
                  case hoc12f8x => (simp only [List.getElem?_toArray, List.getElem?_cons_succ, List.getElem?_cons_zero]; rfl)
                  case stc4f8x =>
                    have dd : Wd.cell? ⟨g, 0, none⟩ = some (.slice (some ⟨gw, 0, none⟩) n c) := cell_of_row _ _ 0 _ _ _ hns.1
                    go_simp
                    refine hK.out _ _ hS (fun hHeld => ?_)
                    clear hK K dd
                    try simp only [Act.put, List.setIfInBounds_toArray, List.set_cons_succ, List.set_cons_zero]
                    clear hS
                    have hS := hHeld
                    clear hHeld
                    refine wpAnyH_ready (rs := [12]) (by kernel_rfl) (by simp) ?_
                    refine' AllReadyH.cons ?hoc12f8x4x (fun K hK => ?stc12f8x4x) AllReadyH.nil
                    case hoc12f8x4x => (simp only [List.getElem?_toArray, List.getElem?_cons_succ, List.getElem?_cons_zero]; rfl)
                    obtain ⟨gw2, hgw2, hword⟩ := hns.word (by omega)
                    have hgq : gw2 = gw := by simpa using hgw2.symm
                    subst gw2
                    obtain ⟨x8, c8, dd, hw8⟩ := hword m EX.out
                    clear hword hgw2
                    go_simp
                    refine hK.out _ _ hS (fun hHeld => ?_)
                    clear hK K dd
                    try simp only [Act.put, List.setIfInBounds_toArray, List.set_cons_succ, List.set_cons_zero]
                    clear hS
                    have hS := hHeld
                    clear hHeld
                    have HW8 := Lib.hid hw8
                    clear hw8
                    refine wpAnyH_ready (rs := [14]) (by kernel_rfl) (by simp) ?_
                    refine' AllReadyH.cons ?hoc14f8x4x12x (fun K hK => ?stc14f8x4x12x) AllReadyH.nil
                    case hoc14f8x4x12x => (simp only [List.getElem?_toArray, List.getElem?_cons_succ, List.getElem?_cons_zero]; rfl)
                    go_simp
                    refine (refXored x8 4 c8 (lat (wk key 60) m) (some ⟨g7, 0, none⟩) 4 c7 (addw l n) Wd (L8.out.1.symm) (HA.out.1.symm) (by omega) (Nat.le_refl _) HW8.out.1 h7).mono ?_
                    rintro e Wf8x4x12x14x ⟨q9, c9, rfl, ho9, hb⟩
                    rw [← LN.out] at ho9 ⊢
                    rw [L9.out] at ho9 ⊢
                    have hwi : WI w.heap.size Wf8x4x12x14x (.slice q9 4 c9) (lat (wk key 60) n) := ho9.wi
                    have hns := hns.below hb
                    go_wp2_with fail
                    refine hK.out _ _ (hS.trans (hb.mono hS.size)) (fun hHeld => ?_)
                    clear hK K ho9 HW8 h7
                    try simp only [Act.put, List.setIfInBounds_toArray, List.set_cons_succ, List.set_cons_zero]
                    clear hb
                    clear hS
                    have hS := hHeld
                    clear hHeld
                    refine wpAnyH_ready (rs := [15]) (by kernel_rfl) (by simp) ?_
                    refine' AllReadyH.cons ?hoc15f8x4x12x14x (fun K hK => ?stc15f8x4x12x14x) AllReadyH.nil
                    case hoc15f8x4x12x14x => (simp only [List.getElem?_toArray, List.getElem?_cons_succ, List.getElem?_cons_zero]; rfl)
                    go_simp
                    have hal : Below Wf8x4x12x14x.heap.size Wf8x4x12x14x (Wf8x4x12x14x.alloc (.cells #[.slice q9 4 c9] 31)) := (Below.refl _ _).alloc (Nat.le_refl _) _
                    refine hK.out _ _ (hS.trans (hal.mono hS.size)) (fun hHeld => ?_)
                    clear hK K
                    try simp only [Act.put, List.setIfInBounds_toArray, List.set_cons_succ, List.set_cons_zero]
                    obtain ⟨q1, c1, w1, hrun, hg1, hbw, hns1⟩ := hns.push LG2.out WG.out (by omega) _ _ hwi
                    have HRUN := Lib.hid hrun
                    have HG1 := Lib.hid hg1
                    have HBW := Lib.hid hbw
                    have HNS1 := Lib.hid hns1
                    have hns := hns.below hal
                    clear hS
                    have hS := hHeld
                    clear hHeld
                    clear hrun hg1 hbw hns1 hwi
                    generalize Wf8x4x12x14x.heap.size = gn at *
                    generalize (Wf8x4x12x14x.alloc (.cells #[.slice q9 4 c9] 31)) = Wf8x4x12x14x15x at *
                    refine wpAnyH_ready (rs := [16]) (by kernel_rfl) (by simp) ?_
                    refine' AllReadyH.cons ?hoc16f8x4x12x14x15x (fun K hK => ?stc16f8x4x12x14x15x) AllReadyH.nil
                    case hoc16f8x4x12x14x15x => (simp only [List.getElem?_toArray, List.getElem?_cons_succ, List.getElem?_cons_zero]; rfl)
                    refine step_appV rfl _ _ rfl rfl rfl rfl HRUN.out ?_
                    refine hK.out _ _ HBW.out (fun hHeld => ?_)
                    clear hK K
                    try simp only [Act.put, List.setIfInBounds_toArray, List.set_cons_succ, List.set_cons_zero]
                    clear hS
                    have hS := hHeld
                    clear hHeld
                    refine' wpAnyH_take (i := 17) ?h1x17f8x4x12x14x15x ?hsx17f8x4x12x14x15x ?hfx17f8x4x12x14x15x ?hrx17f8x4x12x14x15x ?hQx17f8x4x12x14x15x (Or.inl ⟨?hwx17f8x4x12x14x15x, ?hyx17f8x4x12x14x15x⟩) hS ?restx17f8x4x12x14x15x
                    case h1x17f8x4x12x14x15x => (simp only [List.getElem?_toArray, List.getElem?_cons_succ, List.getElem?_cons_zero]; rfl)
                    case hsx17f8x4x12x14x15x | hfx17f8x4x12x14x15x | hrx17f8x4x12x14x15x => kernel_rfl
                    case hQx17f8x4x12x14x15x => exact fun _ _ _ h => h
                    case hwx17f8x4x12x14x15x => rfl
                    case hyx17f8x4x12x14x15x =>
                      intro W hW
                      go_simp
                      try with_reducible rfl
                    simp only [Act.put, List.setIfInBounds_toArray, List.set_cons_succ, List.set_cons_zero]
                    refine' wpAnyH_take (i := 18) ?h1x18f8x4x12x14x15x ?hsx18f8x4x12x14x15x ?hfx18f8x4x12x14x15x ?hrx18f8x4x12x14x15x ?hQx18f8x4x12x14x15x (Or.inl ⟨?hwx18f8x4x12x14x15x, ?hyx18f8x4x12x14x15x⟩) hS ?restx18f8x4x12x14x15x
                    case h1x18f8x4x12x14x15x => (simp only [List.getElem?_toArray, List.getElem?_cons_succ, List.getElem?_cons_zero]; rfl)
                    case hsx18f8x4x12x14x15x | hfx18f8x4x12x14x15x | hrx18f8x4x12x14x15x => kernel_rfl
                    case hQx18f8x4x12x14x15x => exact fun _ _ _ h => h
                    case hwx18f8x4x12x14x15x => rfl
                    case hyx18f8x4x12x14x15x =>
                      intro W hW
                      go_simp
                      try with_reducible rfl
                    simp only [Act.put, List.setIfInBounds_toArray, List.set_cons_succ, List.set_cons_zero]
                    refine wpAnyH_ready (rs := [19]) (by kernel_rfl) (by simp) ?_
                    refine' AllReadyH.cons ?hoc19f8x4x12x14x15x (fun K hK => ?stc19f8x4x12x14x15x) AllReadyH.nil
                    case hoc19f8x4x12x14x15x => (simp only [List.getElem?_toArray, List.getElem?_cons_succ, List.getElem?_cons_zero]; rfl)
                    have dd : w1.cell? ⟨g, 0, none⟩ = some (.slice (some ⟨gw, 0, none⟩) n c) := cell_of_row _ _ 0 _ _ _ HG1.out
                    have df := frozen_of_row w1 g 0 _ 91 HG1.out
                    go_simp
                    refine hK.out _ _ (HBW.out.setCell WG.out _) (fun hHeld => ?_)
                    clear hK K dd df
                    try simp only [Act.put, List.setIfInBounds_toArray, List.set_cons_succ, List.set_cons_zero]
                    refine wpAnyH_done (by kernel_rfl) ?_ _
                    go_wp2_with fail
                    go_roundw
                    case rel => exact ⟨n + 1, q1, c1, _, by omega, by omega, by go_num, HNS1.out⟩
                    case measure => simp [intOf]; omega
                  case stc12f8x =>
                    obtain ⟨gw2, hgw2, hword⟩ := hns.word (by omega)
                    have hgq : gw2 = gw := by simpa using hgw2.symm
                    subst gw2
                    obtain ⟨x8, c8, dd, hw8⟩ := hword m EX.out
                    clear hword hgw2
                    go_simp
                    refine hK.out _ _ hS (fun hHeld => ?_)
                    clear hK K dd
                    try simp only [Act.put, List.setIfInBounds_toArray, List.set_cons_succ, List.set_cons_zero]
                    clear hS
                    have hS := hHeld
                    clear hHeld
                    have HW8 := Lib.hid hw8
                    clear hw8
                    refine wpAnyH_ready (rs := [4, 14]) (by kernel_rfl) (by simp) ?_
                    refine' (AllReadyH.cons ?hoc4f8x12x (fun K hK => ?stc4f8x12x) (AllReadyH.cons ?hoc14f8x12x (fun K hK => ?stc14f8x12x) AllReadyH.nil))
                    case hoc4f8x12x => (simp only [List.getElem?_toArray, List.getElem?_cons_succ, List.getElem?_cons_zero]; rfl)
                    case hoc14f8x12x => (simp only [List.getElem?_toArray, List.getElem?_cons_succ, List.getElem?_cons_zero]; rfl)
                    case stc4f8x12x =>
                      have dd : Wd.cell? ⟨g, 0, none⟩ = some (.slice (some ⟨gw, 0, none⟩) n c) := cell_of_row _ _ 0 _ _ _ hns.1
                      go_simp
                      refine hK.out _ _ hS (fun hHeld => ?_)
                      clear hK K dd
                      try simp only [Act.put, List.setIfInBounds_toArray, List.set_cons_succ, List.set_cons_zero]
                      clear hS
                      have hS := hHeld
                      clear hHeld
                      refine wpAnyH_ready (rs := [14]) (by kernel_rfl) (by simp) ?_
                      refine' AllReadyH.cons ?hoc14f8x12x4x (fun K hK => ?stc14f8x12x4x) AllReadyH.nil
                      case hoc14f8x12x4x => (simp only [List.getElem?_toArray, List.getElem?_cons_succ, List.getElem?_cons_zero]; rfl)
                      go_simp
                      refine (refXored x8 4 c8 (lat (wk key 60) m) (some ⟨g7, 0, none⟩) 4 c7 (addw l n) Wd (L8.out.1.symm) (HA.out.1.symm) (by omega) (Nat.le_refl _) HW8.out.1 h7).mono ?_
                      rintro e Wf8x12x4x14x ⟨q9, c9, rfl, ho9, hb⟩
                      rw [← LN.out] at ho9 ⊢
                      rw [L9.out] at ho9 ⊢
                      have hwi : WI w.heap.size Wf8x12x4x14x (.slice q9 4 c9) (lat (wk key 60) n) := ho9.wi
                      have hns := hns.below hb
                      go_wp2_with fail
                      refine hK.out _ _ (hS.trans (hb.mono hS.size)) (fun hHeld => ?_)
                      clear hK K ho9 HW8 h7
                      try simp only [Act.put, List.setIfInBounds_toArray, List.set_cons_succ, List.set_cons_zero]
                      clear hb
                      clear hS
                      have hS := hHeld
                      clear hHeld
                      refine wpAnyH_ready (rs := [15]) (by kernel_rfl) (by simp) ?_
                      refine' AllReadyH.cons ?hoc15f8x12x4x14x (fun K hK => ?stc15f8x12x4x14x) AllReadyH.nil
                      case hoc15f8x12x4x14x => (simp only [List.getElem?_toArray, List.getElem?_cons_succ, List.getElem?_cons_zero]; rfl)
                      go_simp
                      have hal : Below Wf8x12x4x14x.heap.size Wf8x12x4x14x (Wf8x12x4x14x.alloc (.cells #[.slice q9 4 c9] 31)) := (Below.refl _ _).alloc (Nat.le_refl _) _
                      refine hK.out _ _ (hS.trans (hal.mono hS.size)) (fun hHeld => ?_)
                      clear hK K
                      try simp only [Act.put, List.setIfInBounds_toArray, List.set_cons_succ, List.set_cons_zero]
                      obtain ⟨q1, c1, w1, hrun, hg1, hbw, hns1⟩ := hns.push LG2.out WG.out (by omega) _ _ hwi
                      have HRUN := Lib.hid hrun
                      have HG1 := Lib.hid hg1
                      have HBW := Lib.hid hbw
                      have HNS1 := Lib.hid hns1
                      have hns := hns.below hal
                      clear hS
                      have hS := hHeld
                      clear hHeld
                      clear hrun hg1 hbw hns1 hwi
                      generalize Wf8x12x4x14x.heap.size = gn at *
                      generalize (Wf8x12x4x14x.alloc (.cells #[.slice q9 4 c9] 31)) = Wf8x12x4x14x15x at *
                      refine wpAnyH_ready (rs := [16]) (by kernel_rfl) (by simp) ?_
                      refine' AllReadyH.cons ?hoc16f8x12x4x14x15x (fun K hK => ?stc16f8x12x4x14x15x) AllReadyH.nil
                      case hoc16f8x12x4x14x15x => (simp only [List.getElem?_toArray, List.getElem?_cons_succ, List.getElem?_cons_zero]; rfl)
                      refine step_appV rfl _ _ rfl rfl rfl rfl HRUN.out ?_
                      refine hK.out _ _ HBW.out (fun hHeld => ?_)
                      clear hK K
                      try simp only [Act.put, List.setIfInBounds_toArray, List.set_cons_succ, List.set_cons_zero]
                      clear hS
                      have hS := hHeld
                      clear hHeld
                      refine' wpAnyH_take (i := 17) ?h1x17f8x12x4x14x15x ?hsx17f8x12x4x14x15x ?hfx17f8x12x4x14x15x ?hrx17f8x12x4x14x15x ?hQx17f8x12x4x14x15x (Or.inl ⟨?hwx17f8x12x4x14x15x, ?hyx17f8x12x4x14x15x⟩) hS ?restx17f8x12x4x14x15x
                      case h1x17f8x12x4x14x15x => (simp only [List.getElem?_toArray, List.getElem?_cons_succ, List.getElem?_cons_zero]; rfl)
                      case hsx17f8x12x4x14x15x | hfx17f8x12x4x14x15x | hrx17f8x12x4x14x15x => kernel_rfl
                      case hQx17f8x12x4x14x15x => exact fun _ _ _ h => h
                      case hwx17f8x12x4x14x15x => rfl
                      case hyx17f8x12x4x14x15x =>
                        intro W hW
                        go_simp
                        try with_reducible rfl
                      simp only [Act.put, List.setIfInBounds_toArray, List.set_cons_succ, List.set_cons_zero]
                      refine' wpAnyH_take (i := 18) ?h1x18f8x12x4x14x15x ?hsx18f8x12x4x14x15x ?hfx18f8x12x4x14x15x ?hrx18f8x12x4x14x15x ?hQx18f8x12x4x14x15x (Or.inl ⟨?hwx18f8x12x4x14x15x, ?hyx18f8x12x4x14x15x⟩) hS ?restx18f8x12x4x14x15x
                      case h1x18f8x12x4x14x15x => (simp only [List.getElem?_toArray, List.getElem?_cons_succ, List.getElem?_cons_zero]; rfl)
                      case hsx18f8x12x4x14x15x | hfx18f8x12x4x14x15x | hrx18f8x12x4x14x15x => kernel_rfl
                      case hQx18f8x12x4x14x15x => exact fun _ _ _ h => h
                      case hwx18f8x12x4x14x15x => rfl
                      case hyx18f8x12x4x14x15x =>
                        intro W hW
                        go_simp
                        try with_reducible rfl
                      simp only [Act.put, List.setIfInBounds_toArray, List.set_cons_succ, List.set_cons_zero]
                      refine wpAnyH_ready (rs := [19]) (by kernel_rfl) (by simp) ?_
                      refine' AllReadyH.cons ?hoc19f8x12x4x14x15x (fun K hK => ?stc19f8x12x4x14x15x) AllReadyH.nil
                      case hoc19f8x12x4x14x15x => (simp only [List.getElem?_toArray, List.getElem?_cons_succ, List.getElem?_cons_zero]; rfl)
                      have dd : w1.cell? ⟨g, 0, none⟩ = some (.slice (some ⟨gw, 0, none⟩) n c) := cell_of_row _ _ 0 _ _ _ HG1.out
                      have df := frozen_of_row w1 g 0 _ 91 HG1.out
                      go_simp
                      refine hK.out _ _ (HBW.out.setCell WG.out _) (fun hHeld => ?_)
                      clear hK K dd df
                      try simp only [Act.put, List.setIfInBounds_toArray, List.set_cons_succ, List.set_cons_zero]
                      refine wpAnyH_done (by kernel_rfl) ?_ _
                      go_wp2_with fail
                      go_roundw
                      case rel => exact ⟨n + 1, q1, c1, _, by omega, by omega, by go_num, HNS1.out⟩
                      case measure => simp [intOf]; omega
                    case stc14f8x12x =>
                      go_simp
                      refine (refXored x8 4 c8 (lat (wk key 60) m) (some ⟨g7, 0, none⟩) 4 c7 (addw l n) Wd (L8.out.1.symm) (HA.out.1.symm) (by omega) (Nat.le_refl _) HW8.out.1 h7).mono ?_
                      rintro e Wf8x12x14x ⟨q9, c9, rfl, ho9, hb⟩
                      rw [← LN.out] at ho9 ⊢
                      rw [L9.out] at ho9 ⊢
                      have hwi : WI w.heap.size Wf8x12x14x (.slice q9 4 c9) (lat (wk key 60) n) := ho9.wi
                      have hns := hns.below hb
                      go_wp2_with fail
                      refine hK.out _ _ (hS.trans (hb.mono hS.size)) (fun hHeld => ?_)
                      clear hK K ho9 HW8 h7
                      try simp only [Act.put, List.setIfInBounds_toArray, List.set_cons_succ, List.set_cons_zero]
                      clear hb
                      clear hS
                      have hS := hHeld
                      clear hHeld
                      refine wpAnyH_ready (rs := [4, 15]) (by kernel_rfl) (by simp) ?_
                      refine' (AllReadyH.cons ?hoc4f8x12x14x (fun K hK => ?stc4f8x12x14x) (AllReadyH.cons ?hoc15f8x12x14x (fun K hK => ?stc15f8x12x14x) AllReadyH.nil))
                      case hoc4f8x12x14x => (simp only [List.getElem?_toArray, List.getElem?_cons_succ, List.getElem?_cons_zero]; rfl)
                      case hoc15f8x12x14x => (simp only [List.getElem?_toArray, List.getElem?_cons_succ, List.getElem?_cons_zero]; rfl)
                      case stc4f8x12x14x =>
                        have dd : Wf8x12x14x.cell? ⟨g, 0, none⟩ = some (.slice (some ⟨gw, 0, none⟩) n c) := cell_of_row _ _ 0 _ _ _ hns.1
                        go_simp
                        refine hK.out _ _ hS (fun hHeld => ?_)
                        clear hK K dd
                        try simp only [Act.put, List.setIfInBounds_toArray, List.set_cons_succ, List.set_cons_zero]
                        clear hS
                        have hS := hHeld
                        clear hHeld
                        refine wpAnyH_ready (rs := [15]) (by kernel_rfl) (by simp) ?_
                        refine' AllReadyH.cons ?hoc15f8x12x14x4x (fun K hK => ?stc15f8x12x14x4x) AllReadyH.nil
                        case hoc15f8x12x14x4x => (simp only [List.getElem?_toArray, List.getElem?_cons_succ, List.getElem?_cons_zero]; rfl)
                        go_simp
                        have hal : Below Wf8x12x14x.heap.size Wf8x12x14x (Wf8x12x14x.alloc (.cells #[.slice q9 4 c9] 31)) := (Below.refl _ _).alloc (Nat.le_refl _) _
                        refine hK.out _ _ (hS.trans (hal.mono hS.size)) (fun hHeld => ?_)
                        clear hK K
                        try simp only [Act.put, List.setIfInBounds_toArray, List.set_cons_succ, List.set_cons_zero]
                        obtain ⟨q1, c1, w1, hrun, hg1, hbw, hns1⟩ := hns.push LG2.out WG.out (by omega) _ _ hwi
                        have HRUN := Lib.hid hrun
                        have HG1 := Lib.hid hg1
                        have HBW := Lib.hid hbw
                        have HNS1 := Lib.hid hns1
                        have hns := hns.below hal
                        clear hS
                        have hS := hHeld
                        clear hHeld
                        clear hrun hg1 hbw hns1 hwi
                        generalize Wf8x12x14x.heap.size = gn at *
                        generalize (Wf8x12x14x.alloc (.cells #[.slice q9 4 c9] 31)) = Wf8x12x14x4x15x at *
                        refine wpAnyH_ready (rs := [16]) (by kernel_rfl) (by simp) ?_
                        refine' AllReadyH.cons ?hoc16f8x12x14x4x15x (fun K hK => ?stc16f8x12x14x4x15x) AllReadyH.nil
                        case hoc16f8x12x14x4x15x => (simp only [List.getElem?_toArray, List.getElem?_cons_succ, List.getElem?_cons_zero]; rfl)
                        refine step_appV rfl _ _ rfl rfl rfl rfl HRUN.out ?_
                        refine hK.out _ _ HBW.out (fun hHeld => ?_)
                        clear hK K
                        try simp only [Act.put, List.setIfInBounds_toArray, List.set_cons_succ, List.set_cons_zero]
                        clear hS
                        have hS := hHeld
                        clear hHeld
                        refine' wpAnyH_take (i := 17) ?h1x17f8x12x14x4x15x ?hsx17f8x12x14x4x15x ?hfx17f8x12x14x4x15x ?hrx17f8x12x14x4x15x ?hQx17f8x12x14x4x15x (Or.inl ⟨?hwx17f8x12x14x4x15x, ?hyx17f8x12x14x4x15x⟩) hS ?restx17f8x12x14x4x15x
                        case h1x17f8x12x14x4x15x => (simp only [List.getElem?_toArray, List.getElem?_cons_succ, List.getElem?_cons_zero]; rfl)
                        case hsx17f8x12x14x4x15x | hfx17f8x12x14x4x15x | hrx17f8x12x14x4x15x => kernel_rfl
                        case hQx17f8x12x14x4x15x => exact fun _ _ _ h => h
                        case hwx17f8x12x14x4x15x => rfl
                        case hyx17f8x12x14x4x15x =>
                          intro W hW
                          go_simp
                          try with_reducible rfl
                        simp only [Act.put, List.setIfInBounds_toArray, List.set_cons_succ, List.set_cons_zero]
                        refine' wpAnyH_take (i := 18) ?h1x18f8x12x14x4x15x ?hsx18f8x12x14x4x15x ?hfx18f8x12x14x4x15x ?hrx18f8x12x14x4x15x ?hQx18f8x12x14x4x15x (Or.inl ⟨?hwx18f8x12x14x4x15x, ?hyx18f8x12x14x4x15x⟩) hS ?restx18f8x12x14x4x15x
                        case h1x18f8x12x14x4x15x => (simp only [List.getElem?_toArray, List.getElem?_cons_succ, List.getElem?_cons_zero]; rfl)
                        case hsx18f8x12x14x4x15x | hfx18f8x12x14x4x15x | hrx18f8x12x14x4x15x => kernel_rfl
                        case hQx18f8x12x14x4x15x => exact fun _ _ _ h => h
                        case hwx18f8x12x14x4x15x => rfl
                        case hyx18f8x12x14x4x15x =>
                          intro W hW
                          go_simp
                          try with_reducible rfl
                        simp only [Act.put, List.setIfInBounds_toArray, List.set_cons_succ, List.set_cons_zero]
                        refine wpAnyH_ready (rs := [19]) (by kernel_rfl) (by simp) ?_
                        refine' AllReadyH.cons ?hoc19f8x12x14x4x15x (fun K hK => ?stc19f8x12x14x4x15x) AllReadyH.nil
                        case hoc19f8x12x14x4x15x => (simp only [List.getElem?_toArray, List.getElem?_cons_succ, List.getElem?_cons_zero]; rfl)
                        have dd : w1.cell? ⟨g, 0, none⟩ = some (.slice (some ⟨gw, 0, none⟩) n c) := cell_of_row _ _ 0 _ _ _ HG1.out
                        have df := frozen_of_row w1 g 0 _ 91 HG1.out
                        go_simp
                        refine hK.out _ _ (HBW.out.setCell WG.out _) (fun hHeld => ?_)
                        clear hK K dd df
                        try simp only [Act.put, List.setIfInBounds_toArray, List.set_cons_succ, List.set_cons_zero]
                        refine wpAnyH_done (by kernel_rfl) ?_ _
                        go_wp2_with fail
                        go_roundw
                        case rel => exact ⟨n + 1, q1, c1, _, by omega, by omega, by go_num, HNS1.out⟩
                        case measure => simp [intOf]; omega
                      case stc15f8x12x14x =>
                        go_simp
                        have hal : Below Wf8x12x14x.heap.size Wf8x12x14x (Wf8x12x14x.alloc (.cells #[.slice q9 4 c9] 31)) := (Below.refl _ _).alloc (Nat.le_refl _) _
                        refine hK.out _ _ (hS.trans (hal.mono hS.size)) (fun hHeld => ?_)
                        clear hK K
                        try simp only [Act.put, List.setIfInBounds_toArray, List.set_cons_succ, List.set_cons_zero]
                        obtain ⟨q1, c1, w1, hrun, hg1, hbw, hns1⟩ := hns.push LG2.out WG.out (by omega) _ _ hwi
                        have HRUN := Lib.hid hrun
                        have HG1 := Lib.hid hg1
                        have HBW := Lib.hid hbw
                        have HNS1 := Lib.hid hns1
                        have hns := hns.below hal
                        clear hS
                        have hS := hHeld
                        clear hHeld
                        clear hrun hg1 hbw hns1 hwi
                        generalize Wf8x12x14x.heap.size = gn at *
                        generalize (Wf8x12x14x.alloc (.cells #[.slice q9 4 c9] 31)) = Wf8x12x14x15x at *
                        refine wpAnyH_ready (rs := [4]) (by kernel_rfl) (by simp) ?_
                        refine' AllReadyH.cons ?hoc4f8x12x14x15x (fun K hK => ?stc4f8x12x14x15x) AllReadyH.nil
                        case hoc4f8x12x14x15x => (simp only [List.getElem?_toArray, List.getElem?_cons_succ, List.getElem?_cons_zero]; rfl)
                        have dd : Wf8x12x14x15x.cell? ⟨g, 0, none⟩ = some (.slice (some ⟨gw, 0, none⟩) n c) := cell_of_row _ _ 0 _ _ _ hns.1
                        go_simp
                        refine hK.out _ _ hS (fun hHeld => ?_)
                        clear hK K dd
                        try simp only [Act.put, List.setIfInBounds_toArray, List.set_cons_succ, List.set_cons_zero]
                        clear hS
                        have hS := hHeld
                        clear hHeld
                        refine wpAnyH_ready (rs := [16]) (by kernel_rfl) (by simp) ?_
                        refine' AllReadyH.cons ?hoc16f8x12x14x15x4x (fun K hK => ?stc16f8x12x14x15x4x) AllReadyH.nil
                        case hoc16f8x12x14x15x4x => (simp only [List.getElem?_toArray, List.getElem?_cons_succ, List.getElem?_cons_zero]; rfl)
                        refine step_appV rfl _ _ rfl rfl rfl rfl HRUN.out ?_
                        refine hK.out _ _ HBW.out (fun hHeld => ?_)
                        clear hK K
                        try simp only [Act.put, List.setIfInBounds_toArray, List.set_cons_succ, List.set_cons_zero]
                        clear hS
                        have hS := hHeld
                        clear hHeld
                        refine' wpAnyH_take (i := 17) ?h1x17f8x12x14x15x4x ?hsx17f8x12x14x15x4x ?hfx17f8x12x14x15x4x ?hrx17f8x12x14x15x4x ?hQx17f8x12x14x15x4x (Or.inl ⟨?hwx17f8x12x14x15x4x, ?hyx17f8x12x14x15x4x⟩) hS ?restx17f8x12x14x15x4x
                        case h1x17f8x12x14x15x4x => (simp only [List.getElem?_toArray, List.getElem?_cons_succ, List.getElem?_cons_zero]; rfl)
                        case hsx17f8x12x14x15x4x | hfx17f8x12x14x15x4x | hrx17f8x12x14x15x4x => kernel_rfl
                        case hQx17f8x12x14x15x4x => exact fun _ _ _ h => h
                        case hwx17f8x12x14x15x4x => rfl
                        case hyx17f8x12x14x15x4x =>
                          intro W hW
                          go_simp
                          try with_reducible rfl
                        simp only [Act.put, List.setIfInBounds_toArray, List.set_cons_succ, List.set_cons_zero]
                        refine' wpAnyH_take (i := 18) ?h1x18f8x12x14x15x4x ?hsx18f8x12x14x15x4x ?hfx18f8x12x14x15x4x ?hrx18f8x12x14x15x4x ?hQx18f8x12x14x15x4x (Or.inl ⟨?hwx18f8x12x14x15x4x, ?hyx18f8x12x14x15x4x⟩) hS ?restx18f8x12x14x15x4x
                        case h1x18f8x12x14x15x4x => (simp only [List.getElem?_toArray, List.getElem?_cons_succ, List.getElem?_cons_zero]; rfl)
                        case hsx18f8x12x14x15x4x | hfx18f8x12x14x15x4x | hrx18f8x12x14x15x4x => kernel_rfl
                        case hQx18f8x12x14x15x4x => exact fun _ _ _ h => h
                        case hwx18f8x12x14x15x4x => rfl
                        case hyx18f8x12x14x15x4x =>
                          intro W hW
                          go_simp
                          try with_reducible rfl
                        simp only [Act.put, List.setIfInBounds_toArray, List.set_cons_succ, List.set_cons_zero]
                        refine wpAnyH_ready (rs := [19]) (by kernel_rfl) (by simp) ?_
                        refine' AllReadyH.cons ?hoc19f8x12x14x15x4x (fun K hK => ?stc19f8x12x14x15x4x) AllReadyH.nil
                        case hoc19f8x12x14x15x4x => (simp only [List.getElem?_toArray, List.getElem?_cons_succ, List.getElem?_cons_zero]; rfl)
                        have dd : w1.cell? ⟨g, 0, none⟩ = some (.slice (some ⟨gw, 0, none⟩) n c) := cell_of_row _ _ 0 _ _ _ HG1.out
                        have df := frozen_of_row w1 g 0 _ 91 HG1.out
                        go_simp
                        refine hK.out _ _ (HBW.out.setCell WG.out _) (fun hHeld => ?_)
                        clear hK K dd df
                        try simp only [Act.put, List.setIfInBounds_toArray, List.set_cons_succ, List.set_cons_zero]
                        refine wpAnyH_done (by kernel_rfl) ?_ _
                        go_wp2_with fail
                        go_roundw
                        case rel => exact ⟨n + 1, q1, c1, _, by omega, by omega, by go_num, HNS1.out⟩
                        case measure => simp [intOf]; omega
              · have q0 : ((r : Int) == 0) = false := by simp; omega
                by_cases h4 : r = 4
                · have q4 : ((r : Int) == 4) = true := by simp; omega
                  have AW : Hid (addw l n = boxl l) := addw_4 LP.out.1 n (by have := HRR.out; omega)
                  have RBX := Lib.hid (refBoxed g _ cb x 4 c' l wr LP.out.1.symm (by omega) C1W.out VBW.out HXW.out.1)
                  have BL4 : Hid ((boxl l).length = 4) := by show _ = _; rw [boxl_len]; exact LP.out.1
                  clear h0 h4
                  go_wp2_with fail
                  refine (RBX.out).mono ?_
                  rintro e w5 ⟨q7, c7, rfl, ho7, hb⟩
                  rw [BL4.out] at ho7 ⊢
                  have HNS := Lib.hid (HNSr.out.below hb)
                  have H7 := Lib.hid ho7.sees
                  have HA : Hid (Bts 4 (boxl l)) := by rw [← AW.out]; exact HAD.out
                  have LN := LNX
                  rw [AW.out] at LN
                  clear ho7 hb c0 hxc HNSr HXW RBX C1W VBW
                  go_wp2_with fail
                  refine wp_region_held_drew (S := fun W => Below w.heap.size w W) (by kernel_rfl) HNS.out.2.2.2.2.2.1.drew (fun hS => ?_)
                  refine' wpAnyH_take (i := 0) ?h1x0d ?hsx0d ?hfx0d ?hrx0d ?hQx0d (Or.inl ⟨?hwx0d, ?hyx0d⟩) hS ?restx0d
                  case h1x0d => (simp only [List.getElem?_toArray, List.getElem?_cons_zero]; rfl)
                  case hsx0d | hfx0d | hrx0d => kernel_rfl
                  case hQx0d => exact fun _ _ _ h => h
                  case hwx0d => rfl
                  case hyx0d =>
                    intro W hW
                    go_simp
                    try with_reducible rfl
                  simp only [Act.put, List.setIfInBounds_toArray, List.set_cons_succ, List.set_cons_zero]
                  refine' wpAnyH_take (i := 1) ?h1x1d ?hsx1d ?hfx1d ?hrx1d ?hQx1d (Or.inl ⟨?hwx1d, ?hyx1d⟩) hS ?restx1d
                  case h1x1d => (simp only [List.getElem?_toArray, List.getElem?_cons_succ, List.getElem?_cons_zero]; rfl)
                  case hsx1d | hfx1d | hrx1d => kernel_rfl
                  case hQx1d => exact fun _ _ _ h => h
                  case hwx1d => rfl
                  case hyx1d =>
                    intro W hW
                    go_simp
                    try with_reducible rfl
                  simp only [Act.put, List.setIfInBounds_toArray, List.set_cons_succ, List.set_cons_zero]
                  refine' wpAnyH_take (i := 2) ?h1x2d ?hsx2d ?hfx2d ?hrx2d ?hQx2d (Or.inl ⟨?hwx2d, ?hyx2d⟩) hS ?restx2d
                  case h1x2d => (simp only [List.getElem?_toArray, List.getElem?_cons_succ, List.getElem?_cons_zero]; rfl)
                  case hsx2d | hfx2d | hrx2d => kernel_rfl
                  case hQx2d => exact fun _ _ _ h => h
                  case hwx2d => rfl
                  case hyx2d =>
                    intro W hW
                    go_simp
                    try with_reducible rfl
                  simp only [Act.put, List.setIfInBounds_toArray, List.set_cons_succ, List.set_cons_zero]
                  refine' wpAnyH_take (i := 3) ?h1x3d ?hsx3d ?hfx3d ?hrx3d ?hQx3d (Or.inl ⟨?hwx3d, ?hyx3d⟩) hS ?restx3d
                  case h1x3d => (simp only [List.getElem?_toArray, List.getElem?_cons_succ, List.getElem?_cons_zero]; rfl)
                  case hsx3d | hfx3d | hrx3d => kernel_rfl
                  case hQx3d => exact fun _ _ _ h => h
                  case hwx3d => rfl
                  case hyx3d =>
                    intro W hW
                    go_simp
                    try with_reducible rfl
                  simp only [Act.put, List.setIfInBounds_toArray, List.set_cons_succ, List.set_cons_zero]
                  refine' wpAnyH_take (i := 5) ?h1x5d ?hsx5d ?hfx5d ?hrx5d ?hQx5d (Or.inl ⟨?hwx5d, ?hyx5d⟩) hS ?restx5d
                  case h1x5d => (simp only [List.getElem?_toArray, List.getElem?_cons_succ, List.getElem?_cons_zero]; rfl)
                  case hsx5d | hfx5d | hrx5d => kernel_rfl
                  case hQx5d => exact fun _ _ _ h => h
                  case hwx5d => rfl
                  case hyx5d =>
                    intro W hW
                    go_simp
                    try with_reducible rfl
                  simp only [Act.put, List.setIfInBounds_toArray, List.set_cons_succ, List.set_cons_zero]
                  refine' wpAnyH_take (i := 6) ?h1x6d ?hsx6d ?hfx6d ?hrx6d ?hQx6d (Or.inl ⟨?hwx6d, ?hyx6d⟩) hS ?restx6d
                  case h1x6d => (simp only [List.getElem?_toArray, List.getElem?_cons_succ, List.getElem?_cons_zero]; rfl)
                  case hsx6d | hfx6d | hrx6d => kernel_rfl
                  case hQx6d => exact fun _ _ _ h => h
                  case hwx6d => rfl
                  case hyx6d =>
                    intro W hW
                    go_simp
                    try with_reducible rfl
                  simp only [Act.put, List.setIfInBounds_toArray, List.set_cons_succ, List.set_cons_zero]
                  refine' wpAnyH_take (i := 7) ?h1x7d ?hsx7d ?hfx7d ?hrx7d ?hQx7d (Or.inl ⟨?hwx7d, ?hyx7d⟩) hS ?restx7d
                  case h1x7d => (simp only [List.getElem?_toArray, List.getElem?_cons_succ, List.getElem?_cons_zero]; rfl)
                  case hsx7d | hfx7d | hrx7d => kernel_rfl
                  case hQx7d => exact fun _ _ _ h => h
                  case hwx7d => rfl
                  case hyx7d =>
                    intro W hW
                    go_simp
                    try with_reducible rfl
                  simp only [Act.put, List.setIfInBounds_toArray, List.set_cons_succ, List.set_cons_zero]
                  refine' wpAnyH_take (i := 9) ?h1x9d ?hsx9d ?hfx9d ?hrx9d ?hQx9d (Or.inl ⟨?hwx9d, ?hyx9d⟩) hS ?restx9d
                  case h1x9d => (simp only [List.getElem?_toArray, List.getElem?_cons_succ, List.getElem?_cons_zero]; rfl)
                  case hsx9d | hfx9d | hrx9d => kernel_rfl
                  case hQx9d => exact fun _ _ _ h => h
                  case hwx9d => rfl
                  case hyx9d =>
                    intro W hW
                    go_simp
                    try with_reducible rfl
                  simp only [Act.put, List.setIfInBounds_toArray, List.set_cons_succ, List.set_cons_zero]
                  refine' wpAnyH_take (i := 10) ?h1x10d ?hsx10d ?hfx10d ?hrx10d ?hQx10d (Or.inl ⟨?hwx10d, ?hyx10d⟩) hS ?restx10d
                  case h1x10d => (simp only [List.getElem?_toArray, List.getElem?_cons_succ, List.getElem?_cons_zero]; rfl)
                  case hsx10d | hfx10d | hrx10d => kernel_rfl
                  case hQx10d => exact fun _ _ _ h => h
                  case hwx10d => rfl
                  case hyx10d =>
                    intro W hW
                    have dd := EM.out
                    go_simp
                    try with_reducible rfl
                  simp only [Act.put, List.setIfInBounds_toArray, List.set_cons_succ, List.set_cons_zero]
                  refine' wpAnyH_take (i := 13) ?h1x13d ?hsx13d ?hfx13d ?hrx13d ?hQx13d (Or.inl ⟨?hwx13d, ?hyx13d⟩) hS ?restx13d
                  case h1x13d => (simp only [List.getElem?_toArray, List.getElem?_cons_succ, List.getElem?_cons_zero]; rfl)
                  case hsx13d | hfx13d | hrx13d => kernel_rfl
                  case hQx13d => exact fun _ _ _ h => h
                  case hwx13d => rfl
                  case hyx13d =>
                    intro W hW
                    go_simp
                    try with_reducible rfl
                  simp only [Act.put, List.setIfInBounds_toArray, List.set_cons_succ, List.set_cons_zero]
                  generalize hWd : w5.drew = Wd at *
                  have hns : NS w W2 g vb vk key n (some ⟨gw, 0, none⟩) c xs Wd := by rw [← hWd]; exact HNS.out.below (Below.refl _ _).drew
                  have h7 : Sees Wd (.slice q7 4 c7) (boxl l) := by rw [← hWd]; exact H7.out.below (Below.refl _ _).drew
                  clear hWd
                  refine wpAnyH_ready (rs := [4, 8]) (by kernel_rfl) (by simp) ?_
                  refine' (AllReadyH.cons ?hoc4d (fun K hK => ?stc4d) (AllReadyH.cons ?hoc8d (fun K hK => ?stc8d) AllReadyH.nil))
                  case hoc4d => (simp only [List.getElem?_toArray, List.getElem?_cons_succ, List.getElem?_cons_zero]; rfl)
                  case hoc8d => (simp only [List.getElem?_toArray, List.getElem?_cons_succ, List.getElem?_cons_zero]; rfl)
                  case stc4d =>
                    have dd : Wd.cell? ⟨g, 0, none⟩ = some (.slice (some ⟨gw, 0, none⟩) n c) := cell_of_row _ _ 0 _ _ _ hns.1
                    go_simp
                    refine hK.out _ _ hS (fun hHeld => ?_)
                    clear hK K dd
                    try simp only [Act.put, List.setIfInBounds_toArray, List.set_cons_succ, List.set_cons_zero]
                    clear hS
                    have hS := hHeld
                    clear hHeld
                    refine wpAnyH_ready (rs := [8]) (by kernel_rfl) (by simp) ?_
                    refine' AllReadyH.cons ?hoc8d4x (fun K hK => ?stc8d4x) AllReadyH.nil
                    case hoc8d4x => (simp only [List.getElem?_toArray, List.getElem?_cons_succ, List.getElem?_cons_zero]; rfl)
                    have dd : Wd.cell? ⟨g, 0, none⟩ = some (.slice (some ⟨gw, 0, none⟩) n c) := cell_of_row _ _ 0 _ _ _ hns.1
                    go_simp
                    refine hK.out _ _ hS (fun hHeld => ?_)
                    clear hK K dd
                    try simp only [Act.put, List.setIfInBounds_toArray, List.set_cons_succ, List.set_cons_zero]
                    clear hS
                    have hS := hHeld
                    clear hHeld
                    refine' wpAnyH_take (i := 11) ?h1x11d4x8x ?hsx11d4x8x ?hfx11d4x8x ?hrx11d4x8x ?hQx11d4x8x (Or.inl ⟨?hwx11d4x8x, ?hyx11d4x8x⟩) hS ?restx11d4x8x
                    case h1x11d4x8x => (simp only [List.getElem?_toArray, List.getElem?_cons_succ, List.getElem?_cons_zero]; rfl)
                    case hsx11d4x8x | hfx11d4x8x | hrx11d4x8x => kernel_rfl
                    case hQx11d4x8x => exact fun _ _ _ h => h
                    case hwx11d4x8x => rfl
                    case hyx11d4x8x =>
                      intro W hW
                      have dd := EX.out
                      go_simp
                      try with_reducible rfl
                    simp only [Act.put, List.setIfInBounds_toArray, List.set_cons_succ, List.set_cons_zero]
                    refine wpAnyH_ready (rs := [12]) (by kernel_rfl) (by simp) ?_
                    refine' AllReadyH.cons ?hoc12d4x8x (fun K hK => ?stc12d4x8x) AllReadyH.nil
                    case hoc12d4x8x => (simp only [List.getElem?_toArray, List.getElem?_cons_succ, List.getElem?_cons_zero]; rfl)
                    obtain ⟨gw2, hgw2, hword⟩ := hns.word (by omega)
                    have hgq : gw2 = gw := by simpa using hgw2.symm
                    subst gw2
                    obtain ⟨x8, c8, dd, hw8⟩ := hword m EX.out
                    clear hword hgw2
                    go_simp
                    refine hK.out _ _ hS (fun hHeld => ?_)
                    clear hK K dd
                    try simp only [Act.put, List.setIfInBounds_toArray, List.set_cons_succ, List.set_cons_zero]
                    clear hS
                    have hS := hHeld
                    clear hHeld
                    have HW8 := Lib.hid hw8
                    clear hw8
                    refine wpAnyH_ready (rs := [14]) (by kernel_rfl) (by simp) ?_
                    refine' AllReadyH.cons ?hoc14d4x8x12x (fun K hK => ?stc14d4x8x12x) AllReadyH.nil
                    case hoc14d4x8x12x => (simp only [List.getElem?_toArray, List.getElem?_cons_succ, List.getElem?_cons_zero]; rfl)
                    go_simp
                    refine (refXored x8 4 c8 (lat (wk key 60) m) q7 4 c7 (boxl l) Wd (L8.out.1.symm) (HA.out.1.symm) (by omega) (Nat.le_refl _) HW8.out.1 h7).mono ?_
                    rintro e Wd4x8x12x14x ⟨q9, c9, rfl, ho9, hb⟩
                    rw [← LN.out] at ho9 ⊢
                    rw [L9.out] at ho9 ⊢
                    have hwi : WI w.heap.size Wd4x8x12x14x (.slice q9 4 c9) (lat (wk key 60) n) := ho9.wi
                    have hns := hns.below hb
                    go_wp2_with fail
                    refine hK.out _ _ (hS.trans (hb.mono hS.size)) (fun hHeld => ?_)
                    clear hK K ho9 HW8 h7
                    try simp only [Act.put, List.setIfInBounds_toArray, List.set_cons_succ, List.set_cons_zero]
                    clear hb
                    clear hS
                    have hS := hHeld
                    clear hHeld
                    refine wpAnyH_ready (rs := [15]) (by kernel_rfl) (by simp) ?_
                    refine' AllReadyH.cons ?hoc15d4x8x12x14x (fun K hK => ?stc15d4x8x12x14x) AllReadyH.nil
                    case hoc15d4x8x12x14x => (simp only [List.getElem?_toArray, List.getElem?_cons_succ, List.getElem?_cons_zero]; rfl)
                    go_simp
                    have hal : Below Wd4x8x12x14x.heap.size Wd4x8x12x14x (Wd4x8x12x14x.alloc (.cells #[.slice q9 4 c9] 31)) := (Below.refl _ _).alloc (Nat.le_refl _) _
                    refine hK.out _ _ (hS.trans (hal.mono hS.size)) (fun hHeld => ?_)
                    clear hK K
                    try simp only [Act.put, List.setIfInBounds_toArray, List.set_cons_succ, List.set_cons_zero]
                    obtain ⟨q1, c1, w1, hrun, hg1, hbw, hns1⟩ := hns.push LG2.out WG.out (by omega) _ _ hwi
                    have HRUN := Lib.hid hrun
                    have HG1 := Lib.hid hg1
                    have HBW := Lib.hid hbw
                    have HNS1 := Lib.hid hns1
                    have hns := hns.below hal
                    clear hS
                    have hS := hHeld
                    clear hHeld
                    clear hrun hg1 hbw hns1 hwi
                    generalize Wd4x8x12x14x.heap.size = gn at *
                    generalize (Wd4x8x12x14x.alloc (.cells #[.slice q9 4 c9] 31)) = Wd4x8x12x14x15x at *
                    refine wpAnyH_ready (rs := [16]) (by kernel_rfl) (by simp) ?_
                    refine' AllReadyH.cons ?hoc16d4x8x12x14x15x (fun K hK => ?stc16d4x8x12x14x15x) AllReadyH.nil
                    case hoc16d4x8x12x14x15x => (simp only [List.getElem?_toArray, List.getElem?_cons_succ, List.getElem?_cons_zero]; rfl)
                    refine step_appV rfl _ _ rfl rfl rfl rfl HRUN.out ?_
                    refine hK.out _ _ HBW.out (fun hHeld => ?_)
                    clear hK K
                    try simp only [Act.put, List.setIfInBounds_toArray, List.set_cons_succ, List.set_cons_zero]
                    clear hS
                    have hS := hHeld
                    clear hHeld
                    refine' wpAnyH_take (i := 17) ?h1x17d4x8x12x14x15x ?hsx17d4x8x12x14x15x ?hfx17d4x8x12x14x15x ?hrx17d4x8x12x14x15x ?hQx17d4x8x12x14x15x (Or.inl ⟨?hwx17d4x8x12x14x15x, ?hyx17d4x8x12x14x15x⟩) hS ?restx17d4x8x12x14x15x
                    case h1x17d4x8x12x14x15x => (simp only [List.getElem?_toArray, List.getElem?_cons_succ, List.getElem?_cons_zero]; rfl)
                    case hsx17d4x8x12x14x15x | hfx17d4x8x12x14x15x | hrx17d4x8x12x14x15x => kernel_rfl
                    case hQx17d4x8x12x14x15x => exact fun _ _ _ h => h
                    case hwx17d4x8x12x14x15x => rfl
                    case hyx17d4x8x12x14x15x =>
                      intro W hW
                      go_simp
                      try with_reducible rfl
                    simp only [Act.put, List.setIfInBounds_toArray, List.set_cons_succ, List.set_cons_zero]
                    refine' wpAnyH_take (i := 18) ?h1x18d4x8x12x14x15x ?hsx18d4x8x12x14x15x ?hfx18d4x8x12x14x15x ?hrx18d4x8x12x14x15x ?hQx18d4x8x12x14x15x (Or.inl ⟨?hwx18d4x8x12x14x15x, ?hyx18d4x8x12x14x15x⟩) hS ?restx18d4x8x12x14x15x
                    case h1x18d4x8x12x14x15x => (simp only [List.getElem?_toArray, List.getElem?_cons_succ, List.getElem?_cons_zero]; rfl)
                    case hsx18d4x8x12x14x15x | hfx18d4x8x12x14x15x | hrx18d4x8x12x14x15x => kernel_rfl
                    case hQx18d4x8x12x14x15x => exact fun _ _ _ h => h
                    case hwx18d4x8x12x14x15x => rfl
                    case hyx18d4x8x12x14x15x =>
                      intro W hW
                      go_simp
                      try with_reducible rfl
                    simp only [Act.put, List.setIfInBounds_toArray, List.set_cons_succ, List.set_cons_zero]
                    refine wpAnyH_ready (rs := [19]) (by kernel_rfl) (by simp) ?_
                    refine' AllReadyH.cons ?hoc19d4x8x12x14x15x (fun K hK => ?stc19d4x8x12x14x15x) AllReadyH.nil
                    case hoc19d4x8x12x14x15x => (simp only [List.getElem?_toArray, List.getElem?_cons_succ, List.getElem?_cons_zero]; rfl)
                    have dd : w1.cell? ⟨g, 0, none⟩ = some (.slice (some ⟨gw, 0, none⟩) n c) := cell_of_row _ _ 0 _ _ _ HG1.out
                    have df := frozen_of_row w1 g 0 _ 91 HG1.out
                    go_simp
                    refine hK.out _ _ (HBW.out.setCell WG.out _) (fun hHeld => ?_)
                    clear hK K dd df
                    try simp only [Act.put, List.setIfInBounds_toArray, List.set_cons_succ, List.set_cons_zero]
                    refine wpAnyH_done (by kernel_rfl) ?_ _
                    go_wp2_with fail
                    go_roundw
                    case rel => exact ⟨n + 1, q1, c1, _, by omega, by omega, by go_num, HNS1.out⟩
                    case measure => simp [intOf]; omega
                  case stc8d =>
                    have dd : Wd.cell? ⟨g, 0, none⟩ = some (.slice (some ⟨gw, 0, none⟩) n c) := cell_of_row _ _ 0 _ _ _ hns.1
                    go_simp
                    refine hK.out _ _ hS (fun hHeld => ?_)
                    clear hK K dd
                    try simp only [Act.put, List.setIfInBounds_toArray, List.set_cons_succ, List.set_cons_zero]
                    clear hS
                    have hS := hHeld
                    clear hHeld
                    refine' wpAnyH_take (i := 11) ?h1x11d8x ?hsx11d8x ?hfx11d8x ?hrx11d8x ?hQx11d8x (Or.inl ⟨?hwx11d8x, ?hyx11d8x⟩) hS ?restx11d8x
                    case h1x11d8x => (simp only [List.getElem?_toArray, List.getElem?_cons_succ, List.getElem?_cons_zero]; rfl)
                    case hsx11d8x | hfx11d8x | hrx11d8x => kernel_rfl
                    case hQx11d8x => exact fun _ _ _ h => h
                    case hwx11d8x => rfl
                    case hyx11d8x =>
                      intro W hW
                      have dd := EX.out
                      go_simp
                      try with_reducible rfl
                    simp only [Act.put, List.setIfInBounds_toArray, List.set_cons_succ, List.set_cons_zero]
                    refine wpAnyH_ready (rs := [4, 12]) (by kernel_rfl) (by simp) ?_
                    refine' (AllReadyH.cons ?hoc4d8x (fun K hK => ?stc4d8x) (AllReadyH.cons ?hoc12d8x (fun K hK => ?stc12d8x) AllReadyH.nil))
                    case hoc4d8x => (simp only [List.getElem?_toArray, List.getElem?_cons_succ, List.getElem?_cons_zero]; rfl)
                    case hoc12d8x => (simp only [List.getElem?_toArray, List.getElem?_cons_succ, List.getElem?_cons_zero]; rfl)
                    case stc4d8x =>
                      have dd : Wd.cell? ⟨g, 0, none⟩ = some (.slice (some ⟨gw, 0, none⟩) n c) := cell_of_row _ _ 0 _ _ _ hns.1
                      go_simp
                      refine hK.out _ _ hS (fun hHeld => ?_)
                      clear hK K dd
                      try simp only [Act.put, List.setIfInBounds_toArray, List.set_cons_succ, List.set_cons_zero]
                      clear hS
                      have hS := hHeld
                      clear hHeld
                      refine wpAnyH_ready (rs := [12]) (by kernel_rfl) (by simp) ?_
                      refine' AllReadyH.cons ?hoc12d8x4x (fun K hK => ?stc12d8x4x) AllReadyH.nil
                      case hoc12d8x4x => (simp only [List.getElem?_toArray, List.getElem?_cons_succ, List.getElem?_cons_zero]; rfl)
                      obtain ⟨gw2, hgw2, hword⟩ := hns.word (by omega)
                      have hgq : gw2 = gw := by simpa using hgw2.symm
                      subst gw2
                      obtain ⟨x8, c8, dd, hw8⟩ := hword m EX.out
                      clear hword hgw2
                      go_simp
                      refine hK.out _ _ hS (fun hHeld => ?_)
                      clear hK K dd
                      try simp only [Act.put, List.setIfInBounds_toArray, List.set_cons_succ, List.set_cons_zero]
                      clear hS
                      have hS := hHeld
                      clear hHeld
                      have HW8 := Lib.hid hw8
                      clear hw8
                      refine wpAnyH_ready (rs := [14]) (by kernel_rfl) (by simp) ?_
                      refine' AllReadyH.cons ?hoc14d8x4x12x (fun K hK => ?stc14d8x4x12x) AllReadyH.nil
                      case hoc14d8x4x12x => (simp only [List.getElem?_toArray, List.getElem?_cons_succ, List.getElem?_cons_zero]; rfl)
                      go_simp
                      refine (refXored x8 4 c8 (lat (wk key 60) m) q7 4 c7 (boxl l) Wd (L8.out.1.symm) (HA.out.1.symm) (by omega) (Nat.le_refl _) HW8.out.1 h7).mono ?_
                      rintro e Wd8x4x12x14x ⟨q9, c9, rfl, ho9, hb⟩
                      rw [← LN.out] at ho9 ⊢
                      rw [L9.out] at ho9 ⊢
                      have hwi : WI w.heap.size Wd8x4x12x14x (.slice q9 4 c9) (lat (wk key 60) n) := ho9.wi
                      have hns := hns.below hb
                      go_wp2_with fail
                      refine hK.out _ _ (hS.trans (hb.mono hS.size)) (fun hHeld => ?_)
                      clear hK K ho9 HW8 h7
                      try simp only [Act.put, List.setIfInBounds_toArray, List.set_cons_succ, List.set_cons_zero]
                      clear hb
                      clear hS
                      have hS := hHeld
                      clear hHeld
                      refine wpAnyH_ready (rs := [15]) (by kernel_rfl) (by simp) ?_
                      refine' AllReadyH.cons ?hoc15d8x4x12x14x (fun K hK => ?stc15d8x4x12x14x) AllReadyH.nil
                      case hoc15d8x4x12x14x => (simp only [List.getElem?_toArray, List.getElem?_cons_succ, List.getElem?_cons_zero]; rfl)
                      go_simp
                      have hal : Below Wd8x4x12x14x.heap.size Wd8x4x12x14x (Wd8x4x12x14x.alloc (.cells #[.slice q9 4 c9] 31)) := (Below.refl _ _).alloc (Nat.le_refl _) _
                      refine hK.out _ _ (hS.trans (hal.mono hS.size)) (fun hHeld => ?_)
                      clear hK K
                      try simp only [Act.put, List.setIfInBounds_toArray, List.set_cons_succ, List.set_cons_zero]
                      obtain ⟨q1, c1, w1, hrun, hg1, hbw, hns1⟩ := hns.push LG2.out WG.out (by omega) _ _ hwi
                      have HRUN := Lib.hid hrun
                      have HG1 := Lib.hid hg1
                      have HBW := Lib.hid hbw
                      have HNS1 := Lib.hid hns1
                      have hns := hns.below hal
                      clear hS
                      have hS := hHeld
                      clear hHeld
                      clear hrun hg1 hbw hns1 hwi
                      generalize Wd8x4x12x14x.heap.size = gn at *
                      generalize (Wd8x4x12x14x.alloc (.cells #[.slice q9 4 c9] 31)) = Wd8x4x12x14x15x at *
                      refine wpAnyH_ready (rs := [16]) (by kernel_rfl) (by simp) ?_
                      refine' AllReadyH.cons ?hoc16d8x4x12x14x15x (fun K hK => ?stc16d8x4x12x14x15x) AllReadyH.nil
                      case hoc16d8x4x12x14x15x => (simp only [List.getElem?_toArray, List.getElem?_cons_succ, List.getElem?_cons_zero]; rfl)
                      refine step_appV rfl _ _ rfl rfl rfl rfl HRUN.out ?_
                      refine hK.out _ _ HBW.out (fun hHeld => ?_)
                      clear hK K
                      try simp only [Act.put, List.setIfInBounds_toArray, List.set_cons_succ, List.set_cons_zero]
                      clear hS
                      have hS := hHeld
                      clear hHeld
                      refine' wpAnyH_take (i := 17) ?h1x17d8x4x12x14x15x ?hsx17d8x4x12x14x15x ?hfx17d8x4x12x14x15x ?hrx17d8x4x12x14x15x ?hQx17d8x4x12x14x15x (Or.inl ⟨?hwx17d8x4x12x14x15x, ?hyx17d8x4x12x14x15x⟩) hS ?restx17d8x4x12x14x15x
                      case h1x17d8x4x12x14x15x => (simp only [List.getElem?_toArray, List.getElem?_cons_succ, List.getElem?_cons_zero]; rfl)
                      case hsx17d8x4x12x14x15x | hfx17d8x4x12x14x15x | hrx17d8x4x12x14x15x => kernel_rfl
                      case hQx17d8x4x12x14x15x => exact fun _ _ _ h => h
                      case hwx17d8x4x12x14x15x => rfl
                      case hyx17d8x4x12x14x15x =>
                        intro W hW
                        go_simp
                        try with_reducible rfl
                      simp only [Act.put, List.setIfInBounds_toArray, List.set_cons_succ, List.set_cons_zero]
                      refine' wpAnyH_take (i := 18) ?h1x18d8x4x12x14x15x ?hsx18d8x4x12x14x15x ?hfx18d8x4x12x14x15x ?hrx18d8x4x12x14x15x ?hQx18d8x4x12x14x15x (Or.inl ⟨?hwx18d8x4x12x14x15x, ?hyx18d8x4x12x14x15x⟩) hS ?restx18d8x4x12x14x15x
                      case h1x18d8x4x12x14x15x => (simp only [List.getElem?_toArray, List.getElem?_cons_succ, List.getElem?_cons_zero]; rfl)
                      case hsx18d8x4x12x14x15x | hfx18d8x4x12x14x15x | hrx18d8x4x12x14x15x => kernel_rfl
                      case hQx18d8x4x12x14x15x => exact fun _ _ _ h => h
                      case hwx18d8x4x12x14x15x => rfl
                      case hyx18d8x4x12x14x15x =>
                        intro W hW
                        go_simp
                        try with_reducible rfl
                      simp only [Act.put, List.setIfInBounds_toArray, List.set_cons_succ, List.set_cons_zero]
                      refine wpAnyH_ready (rs := [19]) (by kernel_rfl) (by simp) ?_
                      refine' AllReadyH.cons ?hoc19d8x4x12x14x15x (fun K hK => ?stc19d8x4x12x14x15x) AllReadyH.nil
                      case hoc19d8x4x12x14x15x => (simp only [List.getElem?_toArray, List.getElem?_cons_succ, List.getElem?_cons_zero]; rfl)
                      have dd : w1.cell? ⟨g, 0, none⟩ = some (.slice (some ⟨gw, 0, none⟩) n c) := cell_of_row _ _ 0 _ _ _ HG1.out
                      have df := frozen_of_row w1 g 0 _ 91 HG1.out
                      go_simp
                      refine hK.out _ _ (HBW.out.setCell WG.out _) (fun hHeld => ?_)
                      clear hK K dd df
                      try simp only [Act.put, List.setIfInBounds_toArray, List.set_cons_succ, List.set_cons_zero]
                      refine wpAnyH_done (by kernel_rfl) ?_ _
                      go_wp2_with fail
                      go_roundw
                      case rel => exact ⟨n + 1, q1, c1, _, by omega, by omega, by go_num, HNS1.out⟩
                      case measure => simp [intOf]; omega
                    case stc12d8x =>
                      obtain ⟨gw2, hgw2, hword⟩ := hns.word (by omega)
                      have hgq : gw2 = gw := by simpa using hgw2.symm
                      subst gw2
                      obtain ⟨x8, c8, dd, hw8⟩ := hword m EX.out
                      clear hword hgw2
                      go_simp
                      refine hK.out _ _ hS (fun hHeld => ?_)
                      clear hK K dd
                      try simp only [Act.put, List.setIfInBounds_toArray, List.set_cons_succ, List.set_cons_zero]
                      clear hS
                      have hS := hHeld
                      clear hHeld
                      have HW8 := Lib.hid hw8
                      clear hw8
                      refine wpAnyH_ready (rs := [4, 14]) (by kernel_rfl) (by simp) ?_
                      refine' (AllReadyH.cons ?hoc4d8x12x (fun K hK => ?stc4d8x12x) (AllReadyH.cons ?hoc14d8x12x (fun K hK => ?stc14d8x12x) AllReadyH.nil))
                      case hoc4d8x12x => (simp only [List.getElem?_toArray, List.getElem?_cons_succ, List.getElem?_cons_zero]; rfl)
                      case hoc14d8x12x => (simp only [List.getElem?_toArray, List.getElem?_cons_succ, List.getElem?_cons_zero]; rfl)
                      case stc4d8x12x =>
                        have dd : Wd.cell? ⟨g, 0, none⟩ = some (.slice (some ⟨gw, 0, none⟩) n c) := cell_of_row _ _ 0 _ _ _ hns.1
                        go_simp
                        refine hK.out _ _ hS (fun hHeld => ?_)
                        clear hK K dd
                        try simp only [Act.put, List.setIfInBounds_toArray, List.set_cons_succ, List.set_cons_zero]
                        clear hS
                        have hS := hHeld
                        clear hHeld
                        refine wpAnyH_ready (rs := [14]) (by kernel_rfl) (by simp) ?_
                        refine' AllReadyH.cons ?hoc14d8x12x4x (fun K hK => ?stc14d8x12x4x) AllReadyH.nil
                        case hoc14d8x12x4x => (simp only [List.getElem?_toArray, List.getElem?_cons_succ, List.getElem?_cons_zero]; rfl)
                        go_simp
                        refine (refXored x8 4 c8 (lat (wk key 60) m) q7 4 c7 (boxl l) Wd (L8.out.1.symm) (HA.out.1.symm) (by omega) (Nat.le_refl _) HW8.out.1 h7).mono ?_
                        rintro e Wd8x12x4x14x ⟨q9, c9, rfl, ho9, hb⟩
                        rw [← LN.out] at ho9 ⊢
                        rw [L9.out] at ho9 ⊢
                        have hwi : WI w.heap.size Wd8x12x4x14x (.slice q9 4 c9) (lat (wk key 60) n) := ho9.wi
                        have hns := hns.below hb
                        go_wp2_with fail
                        refine hK.out _ _ (hS.trans (hb.mono hS.size)) (fun hHeld => ?_)
                        clear hK K ho9 HW8 h7
                        try simp only [Act.put, List.setIfInBounds_toArray, List.set_cons_succ, List.set_cons_zero]
                        clear hb
                        clear hS
                        have hS := hHeld
                        clear hHeld
                        refine wpAnyH_ready (rs := [15]) (by kernel_rfl) (by simp) ?_
                        refine' AllReadyH.cons ?hoc15d8x12x4x14x (fun K hK => ?stc15d8x12x4x14x) AllReadyH.nil
                        case hoc15d8x12x4x14x => (simp only [List.getElem?_toArray, List.getElem?_cons_succ, List.getElem?_cons_zero]; rfl)
                        go_simp
                        have hal : Below Wd8x12x4x14x.heap.size Wd8x12x4x14x (Wd8x12x4x14x.alloc (.cells #[.slice q9 4 c9] 31)) := (Below.refl _ _).alloc (Nat.le_refl _) _
                        refine hK.out _ _ (hS.trans (hal.mono hS.size)) (fun hHeld => ?_)
                        clear hK K
                        try simp only [Act.put, List.setIfInBounds_toArray, List.set_cons_succ, List.set_cons_zero]
                        obtain ⟨q1, c1, w1, hrun, hg1, hbw, hns1⟩ := hns.push LG2.out WG.out (by omega) _ _ hwi
                        have HRUN := Lib.hid hrun
                        have HG1 := Lib.hid hg1
                        have HBW := Lib.hid hbw
                        have HNS1 := Lib.hid hns1
                        have hns := hns.below hal
                        clear hS
                        have hS := hHeld
                        clear hHeld
                        clear hrun hg1 hbw hns1 hwi
                        generalize Wd8x12x4x14x.heap.size = gn at *
                        generalize (Wd8x12x4x14x.alloc (.cells #[.slice q9 4 c9] 31)) = Wd8x12x4x14x15x at *
                        refine wpAnyH_ready (rs := [16]) (by kernel_rfl) (by simp) ?_
                        refine' AllReadyH.cons ?hoc16d8x12x4x14x15x (fun K hK => ?stc16d8x12x4x14x15x) AllReadyH.nil
                        case hoc16d8x12x4x14x15x => (simp only [List.getElem?_toArray, List.getElem?_cons_succ, List.getElem?_cons_zero]; rfl)
                        refine step_appV rfl _ _ rfl rfl rfl rfl HRUN.out ?_
                        refine hK.out _ _ HBW.out (fun hHeld => ?_)
                        clear hK K
                        try simp only [Act.put, List.setIfInBounds_toArray, List.set_cons_succ, List.set_cons_zero]
                        clear hS
                        have hS := hHeld
                        clear hHeld
                        refine' wpAnyH_take (i := 17) ?h1x17d8x12x4x14x15x ?hsx17d8x12x4x14x15x ?hfx17d8x12x4x14x15x ?hrx17d8x12x4x14x15x ?hQx17d8x12x4x14x15x (Or.inl ⟨?hwx17d8x12x4x14x15x, ?hyx17d8x12x4x14x15x⟩) hS ?restx17d8x12x4x14x15x
                        case h1x17d8x12x4x14x15x => (simp only [List.getElem?_toArray, List.getElem?_cons_succ, List.getElem?_cons_zero]; rfl)
                        case hsx17d8x12x4x14x15x | hfx17d8x12x4x14x15x | hrx17d8x12x4x14x15x => kernel_rfl
                        case hQx17d8x12x4x14x15x => exact fun _ _ _ h => h
                        case hwx17d8x12x4x14x15x => rfl
                        case hyx17d8x12x4x14x15x =>
                          intro W hW
                          go_simp
                          try with_reducible rfl
                        simp only [Act.put, List.setIfInBounds_toArray, List.set_cons_succ, List.set_cons_zero]
                        refine' wpAnyH_take (i := 18) ?h1x18d8x12x4x14x15x ?hsx18d8x12x4x14x15x ?hfx18d8x12x4x14x15x ?hrx18d8x12x4x14x15x ?hQx18d8x12x4x14x15x (Or.inl ⟨?hwx18d8x12x4x14x15x, ?hyx18d8x12x4x14x15x⟩) hS ?restx18d8x12x4x14x15x
                        case h1x18d8x12x4x14x15x => (simp only [List.getElem?_toArray, List.getElem?_cons_succ, List.getElem?_cons_zero]; rfl)
                        case hsx18d8x12x4x14x15x | hfx18d8x12x4x14x15x | hrx18d8x12x4x14x15x => kernel_rfl
                        case hQx18d8x12x4x14x15x => exact fun _ _ _ h => h
                        case hwx18d8x12x4x14x15x => rfl
                        case hyx18d8x12x4x14x15x =>
                          intro W hW
                          go_simp
                          try with_reducible rfl
                        simp only [Act.put, List.setIfInBounds_toArray, List.set_cons_succ, List.set_cons_zero]
                        refine wpAnyH_ready (rs := [19]) (by kernel_rfl) (by simp) ?_
                        refine' AllReadyH.cons ?hoc19d8x12x4x14x15x (fun K hK => ?stc19d8x12x4x14x15x) AllReadyH.nil
                        case hoc19d8x12x4x14x15x => (simp only [List.getElem?_toArray, List.getElem?_cons_succ, List.getElem?_cons_zero]; rfl)
                        have dd : w1.cell? ⟨g, 0, none⟩ = some (.slice (some ⟨gw, 0, none⟩) n c) := cell_of_row _ _ 0 _ _ _ HG1.out
                        have df := frozen_of_row w1 g 0 _ 91 HG1.out
                        go_simp
                        refine hK.out _ _ (HBW.out.setCell WG.out _) (fun hHeld => ?_)
                        clear hK K dd df
                        try simp only [Act.put, List.setIfInBounds_toArray, List.set_cons_succ, List.set_cons_zero]
                        refine wpAnyH_done (by kernel_rfl) ?_ _
                        go_wp2_with fail
                        go_roundw
                        case rel => exact ⟨n + 1, q1, c1, _, by omega, by omega, by go_num, HNS1.out⟩
                        case measure => simp [intOf]; omega
                      case stc14d8x12x =>
                        go_simp
                        refine (refXored x8 4 c8 (lat (wk key 60) m) q7 4 c7 (boxl l) Wd (L8.out.1.symm) (HA.out.1.symm) (by omega) (Nat.le_refl _) HW8.out.1 h7).mono ?_
                        rintro e Wd8x12x14x ⟨q9, c9, rfl, ho9, hb⟩
                        rw [← LN.out] at ho9 ⊢
                        rw [L9.out] at ho9 ⊢
                        have hwi : WI w.heap.size Wd8x12x14x (.slice q9 4 c9) (lat (wk key 60) n) := ho9.wi
                        have hns := hns.below hb
                        go_wp2_with fail
                        refine hK.out _ _ (hS.trans (hb.mono hS.size)) (fun hHeld => ?_)
                        clear hK K ho9 HW8 h7
                        try simp only [Act.put, List.setIfInBounds_toArray, List.set_cons_succ, List.set_cons_zero]
                        clear hb
                        clear hS
                        have hS := hHeld
                        clear hHeld
                        refine wpAnyH_ready (rs := [4, 15]) (by kernel_rfl) (by simp) ?_
                        refine' (AllReadyH.cons ?hoc4d8x12x14x (fun K hK => ?stc4d8x12x14x) (AllReadyH.cons ?hoc15d8x12x14x (fun K hK => ?stc15d8x12x14x) AllReadyH.nil))
                        case hoc4d8x12x14x => (simp only [List.getElem?_toArray, List.getElem?_cons_succ, List.getElem?_cons_zero]; rfl)
                        case hoc15d8x12x14x => (simp only [List.getElem?_toArray, List.getElem?_cons_succ, List.getElem?_cons_zero]; rfl)
                        case stc4d8x12x14x =>
                          have dd : Wd8x12x14x.cell? ⟨g, 0, none⟩ = some (.slice (some ⟨gw, 0, none⟩) n c) := cell_of_row _ _ 0 _ _ _ hns.1
                          go_simp
                          refine hK.out _ _ hS (fun hHeld => ?_)
                          clear hK K dd
                          try simp only [Act.put, List.setIfInBounds_toArray, List.set_cons_succ, List.set_cons_zero]
                          clear hS
                          have hS := hHeld
                          clear hHeld
                          refine wpAnyH_ready (rs := [15]) (by kernel_rfl) (by simp) ?_
                          refine' AllReadyH.cons ?hoc15d8x12x14x4x (fun K hK => ?stc15d8x12x14x4x) AllReadyH.nil
                          case hoc15d8x12x14x4x => (simp only [List.getElem?_toArray, List.getElem?_cons_succ, List.getElem?_cons_zero]; rfl)
                          go_simp
                          have hal : Below Wd8x12x14x.heap.size Wd8x12x14x (Wd8x12x14x.alloc (.cells #[.slice q9 4 c9] 31)) := (Below.refl _ _).alloc (Nat.le_refl _) _
                          refine hK.out _ _ (hS.trans (hal.mono hS.size)) (fun hHeld => ?_)
                          clear hK K
                          try simp only [Act.put, List.setIfInBounds_toArray, List.set_cons_succ, List.set_cons_zero]
                          obtain ⟨q1, c1, w1, hrun, hg1, hbw, hns1⟩ := hns.push LG2.out WG.out (by omega) _ _ hwi
                          have HRUN := Lib.hid hrun
                          have HG1 := Lib.hid hg1
                          have HBW := Lib.hid hbw
                          have HNS1 := Lib.hid hns1
                          have hns := hns.below hal
                          clear hS
                          have hS := hHeld
                          clear hHeld
                          clear hrun hg1 hbw hns1 hwi
                          generalize Wd8x12x14x.heap.size = gn at *
                          generalize (Wd8x12x14x.alloc (.cells #[.slice q9 4 c9] 31)) = Wd8x12x14x4x15x at *
                          refine wpAnyH_ready (rs := [16]) (by kernel_rfl) (by simp) ?_
                          refine' AllReadyH.cons ?hoc16d8x12x14x4x15x (fun K hK => ?stc16d8x12x14x4x15x) AllReadyH.nil
                          case hoc16d8x12x14x4x15x => (simp only [List.getElem?_toArray, List.getElem?_cons_succ, List.getElem?_cons_zero]; rfl)
                          refine step_appV rfl _ _ rfl rfl rfl rfl HRUN.out ?_
                          refine hK.out _ _ HBW.out (fun hHeld => ?_)
                          clear hK K
                          try simp only [Act.put, List.setIfInBounds_toArray, List.set_cons_succ, List.set_cons_zero]
                          clear hS
                          have hS := hHeld
                          clear hHeld
                          refine' wpAnyH_take (i := 17) ?h1x17d8x12x14x4x15x ?hsx17d8x12x14x4x15x ?hfx17d8x12x14x4x15x ?hrx17d8x12x14x4x15x ?hQx17d8x12x14x4x15x (Or.inl ⟨?hwx17d8x12x14x4x15x, ?hyx17d8x12x14x4x15x⟩) hS ?restx17d8x12x14x4x15x
                          case h1x17d8x12x14x4x15x => (simp only [List.getElem?_toArray, List.getElem?_cons_succ, List.getElem?_cons_zero]; rfl)
                          case hsx17d8x12x14x4x15x | hfx17d8x12x14x4x15x | hrx17d8x12x14x4x15x => kernel_rfl
                          case hQx17d8x12x14x4x15x => exact fun _ _ _ h => h
                          case hwx17d8x12x14x4x15x => rfl
                          case hyx17d8x12x14x4x15x =>
                            intro W hW
                            go_simp
                            try with_reducible rfl
                          simp only [Act.put, List.setIfInBounds_toArray, List.set_cons_succ, List.set_cons_zero]
                          refine' wpAnyH_take (i := 18) ?h1x18d8x12x14x4x15x ?hsx18d8x12x14x4x15x ?hfx18d8x12x14x4x15x ?hrx18d8x12x14x4x15x ?hQx18d8x12x14x4x15x (Or.inl ⟨?hwx18d8x12x14x4x15x, ?hyx18d8x12x14x4x15x⟩) hS ?restx18d8x12x14x4x15x
                          case h1x18d8x12x14x4x15x => (simp only [List.getElem?_toArray, List.getElem?_cons_succ, List.getElem?_cons_zero]; rfl)
                          case hsx18d8x12x14x4x15x | hfx18d8x12x14x4x15x | hrx18d8x12x14x4x15x => kernel_rfl
                          case hQx18d8x12x14x4x15x => exact fun _ _ _ h => h
                          case hwx18d8x12x14x4x15x => rfl
                          case hyx18d8x12x14x4x15x =>
                            intro W hW
                            go_simp
                            try with_reducible rfl
                          simp only [Act.put, List.setIfInBounds_toArray, List.set_cons_succ, List.set_cons_zero]
                          refine wpAnyH_ready (rs := [19]) (by kernel_rfl) (by simp) ?_
                          refine' AllReadyH.cons ?hoc19d8x12x14x4x15x (fun K hK => ?stc19d8x12x14x4x15x) AllReadyH.nil
                          case hoc19d8x12x14x4x15x => (simp only [List.getElem?_toArray, List.getElem?_cons_succ, List.getElem?_cons_zero]; rfl)
                          have dd : w1.cell? ⟨g, 0, none⟩ = some (.slice (some ⟨gw, 0, none⟩) n c) := cell_of_row _ _ 0 _ _ _ HG1.out
                          have df := frozen_of_row w1 g 0 _ 91 HG1.out
                          go_simp
                          refine hK.out _ _ (HBW.out.setCell WG.out _) (fun hHeld => ?_)
                          clear hK K dd df
                          try simp only [Act.put, List.setIfInBounds_toArray, List.set_cons_succ, List.set_cons_zero]
                          refine wpAnyH_done (by kernel_rfl) ?_ _
                          go_wp2_with fail
                          go_roundw
                          case rel => exact ⟨n + 1, q1, c1, _, by omega, by omega, by go_num, HNS1.out⟩
                          case measure => simp [intOf]; omega
                        case stc15d8x12x14x =>
                          go_simp
                          have hal : Below Wd8x12x14x.heap.size Wd8x12x14x (Wd8x12x14x.alloc (.cells #[.slice q9 4 c9] 31)) := (Below.refl _ _).alloc (Nat.le_refl _) _
                          refine hK.out _ _ (hS.trans (hal.mono hS.size)) (fun hHeld => ?_)
                          clear hK K
                          try simp only [Act.put, List.setIfInBounds_toArray, List.set_cons_succ, List.set_cons_zero]
                          obtain ⟨q1, c1, w1, hrun, hg1, hbw, hns1⟩ := hns.push LG2.out WG.out (by omega) _ _ hwi
                          have HRUN := Lib.hid hrun
                          have HG1 := Lib.hid hg1
                          have HBW := Lib.hid hbw
                          have HNS1 := Lib.hid hns1
                          have hns := hns.below hal
                          clear hS
                          have hS := hHeld
                          clear hHeld
                          clear hrun hg1 hbw hns1 hwi
                          generalize Wd8x12x14x.heap.size = gn at *
                          generalize (Wd8x12x14x.alloc (.cells #[.slice q9 4 c9] 31)) = Wd8x12x14x15x at *
                          refine wpAnyH_ready (rs := [4]) (by kernel_rfl) (by simp) ?_
                          refine' AllReadyH.cons ?hoc4d8x12x14x15x (fun K hK => ?stc4d8x12x14x15x) AllReadyH.nil
                          case hoc4d8x12x14x15x => (simp only [List.getElem?_toArray, List.getElem?_cons_succ, List.getElem?_cons_zero]; rfl)
                          have dd : Wd8x12x14x15x.cell? ⟨g, 0, none⟩ = some (.slice (some ⟨gw, 0, none⟩) n c) := cell_of_row _ _ 0 _ _ _ hns.1
                          go_simp
                          refine hK.out _ _ hS (fun hHeld => ?_)
                          clear hK K dd
                          try simp only [Act.put, List.setIfInBounds_toArray, List.set_cons_succ, List.set_cons_zero]
                          clear hS
                          have hS := hHeld
                          clear hHeld
                          refine wpAnyH_ready (rs := [16]) (by kernel_rfl) (by simp) ?_
                          refine' AllReadyH.cons ?hoc16d8x12x14x15x4x (fun K hK => ?stc16d8x12x14x15x4x) AllReadyH.nil
                          case hoc16d8x12x14x15x4x => (simp only [List.getElem?_toArray, List.getElem?_cons_succ, List.getElem?_cons_zero]; rfl)
                          refine step_appV rfl _ _ rfl rfl rfl rfl HRUN.out ?_
                          refine hK.out _ _ HBW.out (fun hHeld => ?_)
                          clear hK K
                          try simp only [Act.put, List.setIfInBounds_toArray, List.set_cons_succ, List.set_cons_zero]
                          clear hS
                          have hS := hHeld
                          clear hHeld
                          refine' wpAnyH_take (i := 17) ?h1x17d8x12x14x15x4x ?hsx17d8x12x14x15x4x ?hfx17d8x12x14x15x4x ?hrx17d8x12x14x15x4x ?hQx17d8x12x14x15x4x (Or.inl ⟨?hwx17d8x12x14x15x4x, ?hyx17d8x12x14x15x4x⟩) hS ?restx17d8x12x14x15x4x
                          case h1x17d8x12x14x15x4x => (simp only [List.getElem?_toArray, List.getElem?_cons_succ, List.getElem?_cons_zero]; rfl)
                          case hsx17d8x12x14x15x4x | hfx17d8x12x14x15x4x | hrx17d8x12x14x15x4x => kernel_rfl
                          case hQx17d8x12x14x15x4x => exact fun _ _ _ h => h
                          case hwx17d8x12x14x15x4x => rfl
                          case hyx17d8x12x14x15x4x =>
                            intro W hW
                            go_simp
                            try with_reducible rfl
                          simp only [Act.put, List.setIfInBounds_toArray, List.set_cons_succ, List.set_cons_zero]
                          refine' wpAnyH_take (i := 18) ?h1x18d8x12x14x15x4x ?hsx18d8x12x14x15x4x ?hfx18d8x12x14x15x4x ?hrx18d8x12x14x15x4x ?hQx18d8x12x14x15x4x (Or.inl ⟨?hwx18d8x12x14x15x4x, ?hyx18d8x12x14x15x4x⟩) hS ?restx18d8x12x14x15x4x
                          case h1x18d8x12x14x15x4x => (simp only [List.getElem?_toArray, List.getElem?_cons_succ, List.getElem?_cons_zero]; rfl)
                          case hsx18d8x12x14x15x4x | hfx18d8x12x14x15x4x | hrx18d8x12x14x15x4x => kernel_rfl
                          case hQx18d8x12x14x15x4x => exact fun _ _ _ h => h
                          case hwx18d8x12x14x15x4x => rfl
                          case hyx18d8x12x14x15x4x =>
                            intro W hW
                            go_simp
                            try with_reducible rfl
                          simp only [Act.put, List.setIfInBounds_toArray, List.set_cons_succ, List.set_cons_zero]
                          refine wpAnyH_ready (rs := [19]) (by kernel_rfl) (by simp) ?_
                          refine' AllReadyH.cons ?hoc19d8x12x14x15x4x (fun K hK => ?stc19d8x12x14x15x4x) AllReadyH.nil
                          case hoc19d8x12x14x15x4x => (simp only [List.getElem?_toArray, List.getElem?_cons_succ, List.getElem?_cons_zero]; rfl)
                          have dd : w1.cell? ⟨g, 0, none⟩ = some (.slice (some ⟨gw, 0, none⟩) n c) := cell_of_row _ _ 0 _ _ _ HG1.out
                          have df := frozen_of_row w1 g 0 _ 91 HG1.out
                          go_simp
                          refine hK.out _ _ (HBW.out.setCell WG.out _) (fun hHeld => ?_)
                          clear hK K dd df
                          try simp only [Act.put, List.setIfInBounds_toArray, List.set_cons_succ, List.set_cons_zero]
                          refine wpAnyH_done (by kernel_rfl) ?_ _
                          go_wp2_with fail
                          go_roundw
                          case rel => exact ⟨n + 1, q1, c1, _, by omega, by omega, by go_num, HNS1.out⟩
                          case measure => simp [intOf]; omega
                · have q4 : ((r : Int) == 4) = false := by simp; omega
                  have AW : Hid (addw l n = l) := addw_n l n (by have := HRR.out; omega) (by have := HRR.out; omega)
                  have HNS := HNSr
                  have H7 := Lib.hid HXW.out.1
                  have HA := LP
                  have LN := LNX
                  rw [AW.out] at LN
                  clear h0 h4 HNSr HXW
                  go_wp2_with fail
                  clear c0 hxc
                  refine wp_region_held_drew (S := fun W => Below w.heap.size w W) (by kernel_rfl) HNS.out.2.2.2.2.2.1.drew (fun hS => ?_)
                  refine' wpAnyH_take (i := 0) ?h1x0e ?hsx0e ?hfx0e ?hrx0e ?hQx0e (Or.inl ⟨?hwx0e, ?hyx0e⟩) hS ?restx0e
                  case h1x0e => (simp only [List.getElem?_toArray, List.getElem?_cons_zero]; rfl)
                  case hsx0e | hfx0e | hrx0e => kernel_rfl
                  case hQx0e => exact fun _ _ _ h => h
                  case hwx0e => rfl
                  case hyx0e =>
                    intro W hW
                    go_simp
                    try with_reducible rfl
                  simp only [Act.put, List.setIfInBounds_toArray, List.set_cons_succ, List.set_cons_zero]
                  refine' wpAnyH_take (i := 1) ?h1x1e ?hsx1e ?hfx1e ?hrx1e ?hQx1e (Or.inl ⟨?hwx1e, ?hyx1e⟩) hS ?restx1e
                  case h1x1e => (simp only [List.getElem?_toArray, List.getElem?_cons_succ, List.getElem?_cons_zero]; rfl)
                  case hsx1e | hfx1e | hrx1e => kernel_rfl
                  case hQx1e => exact fun _ _ _ h => h
                  case hwx1e => rfl
                  case hyx1e =>
                    intro W hW
                    go_simp
                    try with_reducible rfl
                  simp only [Act.put, List.setIfInBounds_toArray, List.set_cons_succ, List.set_cons_zero]
                  refine' wpAnyH_take (i := 2) ?h1x2e ?hsx2e ?hfx2e ?hrx2e ?hQx2e (Or.inl ⟨?hwx2e, ?hyx2e⟩) hS ?restx2e
                  case h1x2e => (simp only [List.getElem?_toArray, List.getElem?_cons_succ, List.getElem?_cons_zero]; rfl)
                  case hsx2e | hfx2e | hrx2e => kernel_rfl
                  case hQx2e => exact fun _ _ _ h => h
                  case hwx2e => rfl
                  case hyx2e =>
                    intro W hW
                    go_simp
                    try with_reducible rfl
                  simp only [Act.put, List.setIfInBounds_toArray, List.set_cons_succ, List.set_cons_zero]
                  refine' wpAnyH_take (i := 3) ?h1x3e ?hsx3e ?hfx3e ?hrx3e ?hQx3e (Or.inl ⟨?hwx3e, ?hyx3e⟩) hS ?restx3e
                  case h1x3e => (simp only [List.getElem?_toArray, List.getElem?_cons_succ, List.getElem?_cons_zero]; rfl)
                  case hsx3e | hfx3e | hrx3e => kernel_rfl
                  case hQx3e => exact fun _ _ _ h => h
                  case hwx3e => rfl
                  case hyx3e =>
                    intro W hW
                    go_simp
                    try with_reducible rfl
                  simp only [Act.put, List.setIfInBounds_toArray, List.set_cons_succ, List.set_cons_zero]
                  refine' wpAnyH_take (i := 5) ?h1x5e ?hsx5e ?hfx5e ?hrx5e ?hQx5e (Or.inl ⟨?hwx5e, ?hyx5e⟩) hS ?restx5e
                  case h1x5e => (simp only [List.getElem?_toArray, List.getElem?_cons_succ, List.getElem?_cons_zero]; rfl)
                  case hsx5e | hfx5e | hrx5e => kernel_rfl
                  case hQx5e => exact fun _ _ _ h => h
                  case hwx5e => rfl
                  case hyx5e =>
                    intro W hW
                    go_simp
                    try with_reducible rfl
                  simp only [Act.put, List.setIfInBounds_toArray, List.set_cons_succ, List.set_cons_zero]
                  refine' wpAnyH_take (i := 6) ?h1x6e ?hsx6e ?hfx6e ?hrx6e ?hQx6e (Or.inl ⟨?hwx6e, ?hyx6e⟩) hS ?restx6e
                  case h1x6e => (simp only [List.getElem?_toArray, List.getElem?_cons_succ, List.getElem?_cons_zero]; rfl)
                  case hsx6e | hfx6e | hrx6e => kernel_rfl
                  case hQx6e => exact fun _ _ _ h => h
                  case hwx6e => rfl
                  case hyx6e =>
                    intro W hW
                    go_simp
                    try with_reducible rfl
                  simp only [Act.put, List.setIfInBounds_toArray, List.set_cons_succ, List.set_cons_zero]
                  refine' wpAnyH_take (i := 7) ?h1x7e ?hsx7e ?hfx7e ?hrx7e ?hQx7e (Or.inl ⟨?hwx7e, ?hyx7e⟩) hS ?restx7e
                  case h1x7e => (simp only [List.getElem?_toArray, List.getElem?_cons_succ, List.getElem?_cons_zero]; rfl)
                  case hsx7e | hfx7e | hrx7e => kernel_rfl
                  case hQx7e => exact fun _ _ _ h => h
                  case hwx7e => rfl
                  case hyx7e =>
                    intro W hW
                    go_simp
                    try with_reducible rfl
                  simp only [Act.put, List.setIfInBounds_toArray, List.set_cons_succ, List.set_cons_zero]
                  refine' wpAnyH_take (i := 9) ?h1x9e ?hsx9e ?hfx9e ?hrx9e ?hQx9e (Or.inl ⟨?hwx9e, ?hyx9e⟩) hS ?restx9e
                  case h1x9e => (simp only [List.getElem?_toArray, List.getElem?_cons_succ, List.getElem?_cons_zero]; rfl)
                  case hsx9e | hfx9e | hrx9e => kernel_rfl
                  case hQx9e => exact fun _ _ _ h => h
                  case hwx9e => rfl
                  case hyx9e =>
                    intro W hW
                    go_simp
                    try with_reducible rfl
                  simp only [Act.put, List.setIfInBounds_toArray, List.set_cons_succ, List.set_cons_zero]
                  refine' wpAnyH_take (i := 10) ?h1x10e ?hsx10e ?hfx10e ?hrx10e ?hQx10e (Or.inl ⟨?hwx10e, ?hyx10e⟩) hS ?restx10e
                  case h1x10e => (simp only [List.getElem?_toArray, List.getElem?_cons_succ, List.getElem?_cons_zero]; rfl)
                  case hsx10e | hfx10e | hrx10e => kernel_rfl
                  case hQx10e => exact fun _ _ _ h => h
                  case hwx10e => rfl
                  case hyx10e =>
                    intro W hW
                    have dd := EM.out
                    go_simp
                    try with_reducible rfl
                  simp only [Act.put, List.setIfInBounds_toArray, List.set_cons_succ, List.set_cons_zero]
                  refine' wpAnyH_take (i := 13) ?h1x13e ?hsx13e ?hfx13e ?hrx13e ?hQx13e (Or.inl ⟨?hwx13e, ?hyx13e⟩) hS ?restx13e
                  case h1x13e => (simp only [List.getElem?_toArray, List.getElem?_cons_succ, List.getElem?_cons_zero]; rfl)
                  case hsx13e | hfx13e | hrx13e => kernel_rfl
                  case hQx13e => exact fun _ _ _ h => h
                  case hwx13e => rfl
                  case hyx13e =>
                    intro W hW
                    go_simp
                    try with_reducible rfl
                  simp only [Act.put, List.setIfInBounds_toArray, List.set_cons_succ, List.set_cons_zero]
                  generalize hWd : wr.drew = Wd at *
                  have hns : NS w W2 g vb vk key n (some ⟨gw, 0, none⟩) c xs Wd := by rw [← hWd]; exact HNS.out.below (Below.refl _ _).drew
                  have h7 : Sees Wd (.slice x 4 c') l := by rw [← hWd]; exact H7.out.below (Below.refl _ _).drew
                  clear hWd
                  refine wpAnyH_ready (rs := [4, 8]) (by kernel_rfl) (by simp) ?_
                  refine' (AllReadyH.cons ?hoc4e (fun K hK => ?stc4e) (AllReadyH.cons ?hoc8e (fun K hK => ?stc8e) AllReadyH.nil))
                  case hoc4e => (simp only [List.getElem?_toArray, List.getElem?_cons_succ, List.getElem?_cons_zero]; rfl)
                  case hoc8e => (simp only [List.getElem?_toArray, List.getElem?_cons_succ, List.getElem?_cons_zero]; rfl)
                  case stc4e =>
                    have dd : Wd.cell? ⟨g, 0, none⟩ = some (.slice (some ⟨gw, 0, none⟩) n c) := cell_of_row _ _ 0 _ _ _ hns.1
                    go_simp
                    refine hK.out _ _ hS (fun hHeld => ?_)
                    clear hK K dd
                    try simp only [Act.put, List.setIfInBounds_toArray, List.set_cons_succ, List.set_cons_zero]
                    clear hS
                    have hS := hHeld
                    clear hHeld
                    refine wpAnyH_ready (rs := [8]) (by kernel_rfl) (by simp) ?_
                    refine' AllReadyH.cons ?hoc8e4x (fun K hK => ?stc8e4x) AllReadyH.nil
                    case hoc8e4x => (simp only [List.getElem?_toArray, List.getElem?_cons_succ, List.getElem?_cons_zero]; rfl)
                    have dd : Wd.cell? ⟨g, 0, none⟩ = some (.slice (some ⟨gw, 0, none⟩) n c) := cell_of_row _ _ 0 _ _ _ hns.1
                    go_simp
                    refine hK.out _ _ hS (fun hHeld => ?_)
                    clear hK K dd
                    try simp only [Act.put, List.setIfInBounds_toArray, List.set_cons_succ, List.set_cons_zero]
                    clear hS
                    have hS := hHeld
                    clear hHeld
                    refine' wpAnyH_take (i := 11) ?h1x11e4x8x ?hsx11e4x8x ?hfx11e4x8x ?hrx11e4x8x ?hQx11e4x8x (Or.inl ⟨?hwx11e4x8x, ?hyx11e4x8x⟩) hS ?restx11e4x8x
                    case h1x11e4x8x => (simp only [List.getElem?_toArray, List.getElem?_cons_succ, List.getElem?_cons_zero]; rfl)
                    case hsx11e4x8x | hfx11e4x8x | hrx11e4x8x => kernel_rfl
                    case hQx11e4x8x => exact fun _ _ _ h => h
                    case hwx11e4x8x => rfl
                    case hyx11e4x8x =>
                      intro W hW
                      have dd := EX.out
                      go_simp
                      try with_reducible rfl
                    simp only [Act.put, List.setIfInBounds_toArray, List.set_cons_succ, List.set_cons_zero]
                    refine wpAnyH_ready (rs := [12]) (by kernel_rfl) (by simp) ?_
                    refine' AllReadyH.cons ?hoc12e4x8x (fun K hK => ?stc12e4x8x) AllReadyH.nil
                    case hoc12e4x8x => (simp only [List.getElem?_toArray, List.getElem?_cons_succ, List.getElem?_cons_zero]; rfl)
                    obtain ⟨gw2, hgw2, hword⟩ := hns.word (by omega)
                    have hgq : gw2 = gw := by simpa using hgw2.symm
                    subst gw2
                    obtain ⟨x8, c8, dd, hw8⟩ := hword m EX.out
                    clear hword hgw2
                    go_simp
                    refine hK.out _ _ hS (fun hHeld => ?_)
                    clear hK K dd
                    try simp only [Act.put, List.setIfInBounds_toArray, List.set_cons_succ, List.set_cons_zero]
                    clear hS
                    have hS := hHeld
                    clear hHeld
                    have HW8 := Lib.hid hw8
                    clear hw8
                    refine wpAnyH_ready (rs := [14]) (by kernel_rfl) (by simp) ?_
                    refine' AllReadyH.cons ?hoc14e4x8x12x (fun K hK => ?stc14e4x8x12x) AllReadyH.nil
                    case hoc14e4x8x12x => (simp only [List.getElem?_toArray, List.getElem?_cons_succ, List.getElem?_cons_zero]; rfl)
                    go_simp
                    refine (refXored x8 4 c8 (lat (wk key 60) m) x 4 c' l Wd (L8.out.1.symm) (HA.out.1.symm) (by omega) (Nat.le_refl _) HW8.out.1 h7).mono ?_
                    rintro e We4x8x12x14x ⟨q9, c9, rfl, ho9, hb⟩
                    rw [← LN.out] at ho9 ⊢
                    rw [L9.out] at ho9 ⊢
                    have hwi : WI w.heap.size We4x8x12x14x (.slice q9 4 c9) (lat (wk key 60) n) := ho9.wi
                    have hns := hns.below hb
                    go_wp2_with fail
                    refine hK.out _ _ (hS.trans (hb.mono hS.size)) (fun hHeld => ?_)
                    clear hK K ho9 HW8 h7
                    try simp only [Act.put, List.setIfInBounds_toArray, List.set_cons_succ, List.set_cons_zero]
                    clear hb
                    clear hS
                    have hS := hHeld
                    clear hHeld
                    refine wpAnyH_ready (rs := [15]) (by kernel_rfl) (by simp) ?_
                    refine' AllReadyH.cons ?hoc15e4x8x12x14x (fun K hK => ?stc15e4x8x12x14x) AllReadyH.nil
                    case hoc15e4x8x12x14x => (simp only [List.getElem?_toArray, List.getElem?_cons_succ, List.getElem?_cons_zero]; rfl)
                    go_simp
                    have hal : Below We4x8x12x14x.heap.size We4x8x12x14x (We4x8x12x14x.alloc (.cells #[.slice q9 4 c9] 31)) := (Below.refl _ _).alloc (Nat.le_refl _) _
                    refine hK.out _ _ (hS.trans (hal.mono hS.size)) (fun hHeld => ?_)
                    clear hK K
                    try simp only [Act.put, List.setIfInBounds_toArray, List.set_cons_succ, List.set_cons_zero]
                    obtain ⟨q1, c1, w1, hrun, hg1, hbw, hns1⟩ := hns.push LG2.out WG.out (by omega) _ _ hwi
                    have HRUN := Lib.hid hrun
                    have HG1 := Lib.hid hg1
                    have HBW := Lib.hid hbw
                    have HNS1 := Lib.hid hns1
                    have hns := hns.below hal
                    clear hS
                    have hS := hHeld
                    clear hHeld
                    clear hrun hg1 hbw hns1 hwi
                    generalize We4x8x12x14x.heap.size = gn at *
                    generalize (We4x8x12x14x.alloc (.cells #[.slice q9 4 c9] 31)) = We4x8x12x14x15x at *
                    refine wpAnyH_ready (rs := [16]) (by kernel_rfl) (by simp) ?_
                    refine' AllReadyH.cons ?hoc16e4x8x12x14x15x (fun K hK => ?stc16e4x8x12x14x15x) AllReadyH.nil
                    case hoc16e4x8x12x14x15x => (simp only [List.getElem?_toArray, List.getElem?_cons_succ, List.getElem?_cons_zero]; rfl)
                    refine step_appV rfl _ _ rfl rfl rfl rfl HRUN.out ?_
                    refine hK.out _ _ HBW.out (fun hHeld => ?_)
                    clear hK K
                    try simp only [Act.put, List.setIfInBounds_toArray, List.set_cons_succ, List.set_cons_zero]
                    clear hS
                    have hS := hHeld
                    clear hHeld
                    refine' wpAnyH_take (i := 17) ?h1x17e4x8x12x14x15x ?hsx17e4x8x12x14x15x ?hfx17e4x8x12x14x15x ?hrx17e4x8x12x14x15x ?hQx17e4x8x12x14x15x (Or.inl ⟨?hwx17e4x8x12x14x15x, ?hyx17e4x8x12x14x15x⟩) hS ?restx17e4x8x12x14x15x
                    case h1x17e4x8x12x14x15x => (simp only [List.getElem?_toArray, List.getElem?_cons_succ, List.getElem?_cons_zero]; rfl)
                    case hsx17e4x8x12x14x15x | hfx17e4x8x12x14x15x | hrx17e4x8x12x14x15x => kernel_rfl
                    case hQx17e4x8x12x14x15x => exact fun _ _ _ h => h
                    case hwx17e4x8x12x14x15x => rfl
                    case hyx17e4x8x12x14x15x =>
                      intro W hW
                      go_simp
                      try with_reducible rfl
                    simp only [Act.put, List.setIfInBounds_toArray, List.set_cons_succ, List.set_cons_zero]
                    refine' wpAnyH_take (i := 18) ?h1x18e4x8x12x14x15x ?hsx18e4x8x12x14x15x ?hfx18e4x8x12x14x15x ?hrx18e4x8x12x14x15x ?hQx18e4x8x12x14x15x (Or.inl ⟨?hwx18e4x8x12x14x15x, ?hyx18e4x8x12x14x15x⟩) hS ?restx18e4x8x12x14x15x
                    case h1x18e4x8x12x14x15x => (simp only [List.getElem?_toArray, List.getElem?_cons_succ, List.getElem?_cons_zero]; rfl)
                    case hsx18e4x8x12x14x15x | hfx18e4x8x12x14x15x | hrx18e4x8x12x14x15x => kernel_rfl
                    case hQx18e4x8x12x14x15x => exact fun _ _ _ h => h
                    case hwx18e4x8x12x14x15x => rfl
                    case hyx18e4x8x12x14x15x =>
                      intro W hW
                      go_simp
                      try with_reducible rfl
                    simp only [Act.put, List.setIfInBounds_toArray, List.set_cons_succ, List.set_cons_zero]
                    refine wpAnyH_ready (rs := [19]) (by kernel_rfl) (by simp) ?_
                    refine' AllReadyH.cons ?hoc19e4x8x12x14x15x (fun K hK => ?stc19e4x8x12x14x15x) AllReadyH.nil
                    case hoc19e4x8x12x14x15x => (simp only [List.getElem?_toArray, List.getElem?_cons_succ, List.getElem?_cons_zero]; rfl)
                    have dd : w1.cell? ⟨g, 0, none⟩ = some (.slice (some ⟨gw, 0, none⟩) n c) := cell_of_row _ _ 0 _ _ _ HG1.out
                    have df := frozen_of_row w1 g 0 _ 91 HG1.out
                    go_simp
                    refine hK.out _ _ (HBW.out.setCell WG.out _) (fun hHeld => ?_)
                    clear hK K dd df
                    try simp only [Act.put, List.setIfInBounds_toArray, List.set_cons_succ, List.set_cons_zero]
                    refine wpAnyH_done (by kernel_rfl) ?_ _
                    go_wp2_with fail
                    go_roundw
                    case rel => exact ⟨n + 1, q1, c1, _, by omega, by omega, by go_num, HNS1.out⟩
                    case measure => simp [intOf]; omega
                  case stc8e =>
                    have dd : Wd.cell? ⟨g, 0, none⟩ = some (.slice (some ⟨gw, 0, none⟩) n c) := cell_of_row _ _ 0 _ _ _ hns.1
                    go_simp
                    refine hK.out _ _ hS (fun hHeld => ?_)
                    clear hK K dd
                    try simp only [Act.put, List.setIfInBounds_toArray, List.set_cons_succ, List.set_cons_zero]
                    clear hS
                    have hS := hHeld
                    clear hHeld
                    refine' wpAnyH_take (i := 11) ?h1x11e8x ?hsx11e8x ?hfx11e8x ?hrx11e8x ?hQx11e8x (Or.inl ⟨?hwx11e8x, ?hyx11e8x⟩) hS ?restx11e8x
                    case h1x11e8x => (simp only [List.getElem?_toArray, List.getElem?_cons_succ, List.getElem?_cons_zero]; rfl)
                    case hsx11e8x | hfx11e8x | hrx11e8x => kernel_rfl
                    case hQx11e8x => exact fun _ _ _ h => h
                    case hwx11e8x => rfl
                    case hyx11e8x =>
                      intro W hW
                      have dd := EX.out
                      go_simp
                      try with_reducible rfl
                    simp only [Act.put, List.setIfInBounds_toArray, List.set_cons_succ, List.set_cons_zero]
                    refine wpAnyH_ready (rs := [4, 12]) (by kernel_rfl) (by simp) ?_
                    refine' (AllReadyH.cons ?hoc4e8x (fun K hK => ?stc4e8x) (AllReadyH.cons ?hoc12e8x (fun K hK => ?stc12e8x) AllReadyH.nil))
                    case hoc4e8x => (simp only [List.getElem?_toArray, List.getElem?_cons_succ, List.getElem?_cons_zero]; rfl)
                    case hoc12e8x => (simp only [List.getElem?_toArray, List.getElem?_cons_succ, List.getElem?_cons_zero]; rfl)
                    case stc4e8x =>
                      have dd : Wd.cell? ⟨g, 0, none⟩ = some (.slice (some ⟨gw, 0, none⟩) n c) := cell_of_row _ _ 0 _ _ _ hns.1
                      go_simp
                      refine hK.out _ _ hS (fun hHeld => ?_)
                      clear hK K dd
                      try simp only [Act.put, List.setIfInBounds_toArray, List.set_cons_succ, List.set_cons_zero]
                      clear hS
                      have hS := hHeld
                      clear hHeld
                      refine wpAnyH_ready (rs := [12]) (by kernel_rfl) (by simp) ?_
                      refine' AllReadyH.cons ?hoc12e8x4x (fun K hK => ?stc12e8x4x) AllReadyH.nil
                      case hoc12e8x4x => (simp only [List.getElem?_toArray, List.getElem?_cons_succ, List.getElem?_cons_zero]; rfl)
                      obtain ⟨gw2, hgw2, hword⟩ := hns.word (by omega)
                      have hgq : gw2 = gw := by simpa using hgw2.symm
                      subst gw2
                      obtain ⟨x8, c8, dd, hw8⟩ := hword m EX.out
                      clear hword hgw2
                      go_simp
                      refine hK.out _ _ hS (fun hHeld => ?_)
                      clear hK K dd
                      try simp only [Act.put, List.setIfInBounds_toArray, List.set_cons_succ, List.set_cons_zero]
                      clear hS
                      have hS := hHeld
                      clear hHeld
                      have HW8 := Lib.hid hw8
                      clear hw8
                      refine wpAnyH_ready (rs := [14]) (by kernel_rfl) (by simp) ?_
                      refine' AllReadyH.cons ?hoc14e8x4x12x (fun K hK => ?stc14e8x4x12x) AllReadyH.nil
                      case hoc14e8x4x12x => (simp only [List.getElem?_toArray, List.getElem?_cons_succ, List.getElem?_cons_zero]; rfl)
                      go_simp
                      refine (refXored x8 4 c8 (lat (wk key 60) m) x 4 c' l Wd (L8.out.1.symm) (HA.out.1.symm) (by omega) (Nat.le_refl _) HW8.out.1 h7).mono ?_
                      rintro e We8x4x12x14x ⟨q9, c9, rfl, ho9, hb⟩
                      rw [← LN.out] at ho9 ⊢
                      rw [L9.out] at ho9 ⊢
                      have hwi : WI w.heap.size We8x4x12x14x (.slice q9 4 c9) (lat (wk key 60) n) := ho9.wi
                      have hns := hns.below hb
                      go_wp2_with fail
                      refine hK.out _ _ (hS.trans (hb.mono hS.size)) (fun hHeld => ?_)
                      clear hK K ho9 HW8 h7
                      try simp only [Act.put, List.setIfInBounds_toArray, List.set_cons_succ, List.set_cons_zero]
                      clear hb
                      clear hS
                      have hS := hHeld
                      clear hHeld
                      refine wpAnyH_ready (rs := [15]) (by kernel_rfl) (by simp) ?_
                      refine' AllReadyH.cons ?hoc15e8x4x12x14x (fun K hK => ?stc15e8x4x12x14x) AllReadyH.nil
                      case hoc15e8x4x12x14x => (simp only [List.getElem?_toArray, List.getElem?_cons_succ, List.getElem?_cons_zero]; rfl)
                      go_simp
                      have hal : Below We8x4x12x14x.heap.size We8x4x12x14x (We8x4x12x14x.alloc (.cells #[.slice q9 4 c9] 31)) := (Below.refl _ _).alloc (Nat.le_refl _) _
                      refine hK.out _ _ (hS.trans (hal.mono hS.size)) (fun hHeld => ?_)
                      clear hK K
                      try simp only [Act.put, List.setIfInBounds_toArray, List.set_cons_succ, List.set_cons_zero]
                      obtain ⟨q1, c1, w1, hrun, hg1, hbw, hns1⟩ := hns.push LG2.out WG.out (by omega) _ _ hwi
                      have HRUN := Lib.hid hrun
                      have HG1 := Lib.hid hg1
                      have HBW := Lib.hid hbw
                      have HNS1 := Lib.hid hns1
                      have hns := hns.below hal
                      clear hS
                      have hS := hHeld
                      clear hHeld
                      clear hrun hg1 hbw hns1 hwi
                      generalize We8x4x12x14x.heap.size = gn at *
                      generalize (We8x4x12x14x.alloc (.cells #[.slice q9 4 c9] 31)) = We8x4x12x14x15x at *
                      refine wpAnyH_ready (rs := [16]) (by kernel_rfl) (by simp) ?_
                      refine' AllReadyH.cons ?hoc16e8x4x12x14x15x (fun K hK => ?stc16e8x4x12x14x15x) AllReadyH.nil
                      case hoc16e8x4x12x14x15x => (simp only [List.getElem?_toArray, List.getElem?_cons_succ, List.getElem?_cons_zero]; rfl)
                      refine step_appV rfl _ _ rfl rfl rfl rfl HRUN.out ?_
                      refine hK.out _ _ HBW.out (fun hHeld => ?_)
                      clear hK K
                      try simp only [Act.put, List.setIfInBounds_toArray, List.set_cons_succ, List.set_cons_zero]
                      clear hS
                      have hS := hHeld
                      clear hHeld
                      refine' wpAnyH_take (i := 17) ?h1x17e8x4x12x14x15x ?hsx17e8x4x12x14x15x ?hfx17e8x4x12x14x15x ?hrx17e8x4x12x14x15x ?hQx17e8x4x12x14x15x (Or.inl ⟨?hwx17e8x4x12x14x15x, ?hyx17e8x4x12x14x15x⟩) hS ?restx17e8x4x12x14x15x
                      case h1x17e8x4x12x14x15x => (simp only [List.getElem?_toArray, List.getElem?_cons_succ, List.getElem?_cons_zero]; rfl)
                      case hsx17e8x4x12x14x15x | hfx17e8x4x12x14x15x | hrx17e8x4x12x14x15x => kernel_rfl
                      case hQx17e8x4x12x14x15x => exact fun _ _ _ h => h
                      case hwx17e8x4x12x14x15x => rfl
                      case hyx17e8x4x12x14x15x =>
                        intro W hW
                        go_simp
                        try with_reducible rfl
                      simp only [Act.put, List.setIfInBounds_toArray, List.set_cons_succ, List.set_cons_zero]
                      refine' wpAnyH_take (i := 18) ?h1x18e8x4x12x14x15x ?hsx18e8x4x12x14x15x ?hfx18e8x4x12x14x15x ?hrx18e8x4x12x14x15x ?hQx18e8x4x12x14x15x (Or.inl ⟨?hwx18e8x4x12x14x15x, ?hyx18e8x4x12x14x15x⟩) hS ?restx18e8x4x12x14x15x
                      case h1x18e8x4x12x14x15x => (simp only [List.getElem?_toArray, List.getElem?_cons_succ, List.getElem?_cons_zero]; rfl)
                      case hsx18e8x4x12x14x15x | hfx18e8x4x12x14x15x | hrx18e8x4x12x14x15x => kernel_rfl
                      case hQx18e8x4x12x14x15x => exact fun _ _ _ h => h
                      case hwx18e8x4x12x14x15x => rfl
                      case hyx18e8x4x12x14x15x =>
                        intro W hW
                        go_simp
                        try with_reducible rfl
                      simp only [Act.put, List.setIfInBounds_toArray, List.set_cons_succ, List.set_cons_zero]
                      refine wpAnyH_ready (rs := [19]) (by kernel_rfl) (by simp) ?_
                      refine' AllReadyH.cons ?hoc19e8x4x12x14x15x (fun K hK => ?stc19e8x4x12x14x15x) AllReadyH.nil
                      case hoc19e8x4x12x14x15x => (simp only [List.getElem?_toArray, List.getElem?_cons_succ, List.getElem?_cons_zero]; rfl)
                      have dd : w1.cell? ⟨g, 0, none⟩ = some (.slice (some ⟨gw, 0, none⟩) n c) := cell_of_row _ _ 0 _ _ _ HG1.out
                      have df := frozen_of_row w1 g 0 _ 91 HG1.out
                      go_simp
                      refine hK.out _ _ (HBW.out.setCell WG.out _) (fun hHeld => ?_)
                      clear hK K dd df
                      try simp only [Act.put, List.setIfInBounds_toArray, List.set_cons_succ, List.set_cons_zero]
                      refine wpAnyH_done (by kernel_rfl) ?_ _
                      go_wp2_with fail
                      go_roundw
                      case rel => exact ⟨n + 1, q1, c1, _, by omega, by omega, by go_num, HNS1.out⟩
                      case measure => simp [intOf]; omega
                    case stc12e8x =>
                      obtain ⟨gw2, hgw2, hword⟩ := hns.word (by omega)
                      have hgq : gw2 = gw := by simpa using hgw2.symm
                      subst gw2
                      obtain ⟨x8, c8, dd, hw8⟩ := hword m EX.out
                      clear hword hgw2
                      go_simp
                      refine hK.out _ _ hS (fun hHeld => ?_)
                      clear hK K dd
                      try simp only [Act.put, List.setIfInBounds_toArray, List.set_cons_succ, List.set_cons_zero]
                      clear hS
                      have hS := hHeld
                      clear hHeld
                      have HW8 := Lib.hid hw8
                      clear hw8
                      refine wpAnyH_ready (rs := [4, 14]) (by kernel_rfl) (by simp) ?_
                      refine' (AllReadyH.cons ?hoc4e8x12x (fun K hK => ?stc4e8x12x) (AllReadyH.cons ?hoc14e8x12x (fun K hK => ?stc14e8x12x) AllReadyH.nil))
                      case hoc4e8x12x => (simp only [List.getElem?_toArray, List.getElem?_cons_succ, List.getElem?_cons_zero]; rfl)
                      case hoc14e8x12x => (simp only [List.getElem?_toArray, List.getElem?_cons_succ, List.getElem?_cons_zero]; rfl)
                      case stc4e8x12x =>
                        have dd : Wd.cell? ⟨g, 0, none⟩ = some (.slice (some ⟨gw, 0, none⟩) n c) := cell_of_row _ _ 0 _ _ _ hns.1
                        go_simp
                        refine hK.out _ _ hS (fun hHeld => ?_)
                        clear hK K dd
                        try simp only [Act.put, List.setIfInBounds_toArray, List.set_cons_succ, List.set_cons_zero]
                        clear hS
                        have hS := hHeld
                        clear hHeld
                        refine wpAnyH_ready (rs := [14]) (by kernel_rfl) (by simp) ?_
                        refine' AllReadyH.cons ?hoc14e8x12x4x (fun K hK => ?stc14e8x12x4x) AllReadyH.nil
                        case hoc14e8x12x4x => (simp only [List.getElem?_toArray, List.getElem?_cons_succ, List.getElem?_cons_zero]; rfl)
                        go_simp
                        refine (refXored x8 4 c8 (lat (wk key 60) m) x 4 c' l Wd (L8.out.1.symm) (HA.out.1.symm) (by omega) (Nat.le_refl _) HW8.out.1 h7).mono ?_
                        rintro e We8x12x4x14x ⟨q9, c9, rfl, ho9, hb⟩
                        rw [← LN.out] at ho9 ⊢
                        rw [L9.out] at ho9 ⊢
                        have hwi : WI w.heap.size We8x12x4x14x (.slice q9 4 c9) (lat (wk key 60) n) := ho9.wi
                        have hns := hns.below hb
                        go_wp2_with fail
                        refine hK.out _ _ (hS.trans (hb.mono hS.size)) (fun hHeld => ?_)
                        clear hK K ho9 HW8 h7
                        try simp only [Act.put, List.setIfInBounds_toArray, List.set_cons_succ, List.set_cons_zero]
                        clear hb
                        clear hS
                        have hS := hHeld
                        clear hHeld
                        refine wpAnyH_ready (rs := [15]) (by kernel_rfl) (by simp) ?_
                        refine' AllReadyH.cons ?hoc15e8x12x4x14x (fun K hK => ?stc15e8x12x4x14x) AllReadyH.nil
                        case hoc15e8x12x4x14x => (simp only [List.getElem?_toArray, List.getElem?_cons_succ, List.getElem?_cons_zero]; rfl)
                        go_simp
                        have hal : Below We8x12x4x14x.heap.size We8x12x4x14x (We8x12x4x14x.alloc (.cells #[.slice q9 4 c9] 31)) := (Below.refl _ _).alloc (Nat.le_refl _) _
                        refine hK.out _ _ (hS.trans (hal.mono hS.size)) (fun hHeld => ?_)
                        clear hK K
                        try simp only [Act.put, List.setIfInBounds_toArray, List.set_cons_succ, List.set_cons_zero]
                        obtain ⟨q1, c1, w1, hrun, hg1, hbw, hns1⟩ := hns.push LG2.out WG.out (by omega) _ _ hwi
                        have HRUN := Lib.hid hrun
                        have HG1 := Lib.hid hg1
                        have HBW := Lib.hid hbw
                        have HNS1 := Lib.hid hns1
                        have hns := hns.below hal
                        clear hS
                        have hS := hHeld
                        clear hHeld
                        clear hrun hg1 hbw hns1 hwi
                        generalize We8x12x4x14x.heap.size = gn at *
                        generalize (We8x12x4x14x.alloc (.cells #[.slice q9 4 c9] 31)) = We8x12x4x14x15x at *
                        refine wpAnyH_ready (rs := [16]) (by kernel_rfl) (by simp) ?_
                        refine' AllReadyH.cons ?hoc16e8x12x4x14x15x (fun K hK => ?stc16e8x12x4x14x15x) AllReadyH.nil
                        case hoc16e8x12x4x14x15x => (simp only [List.getElem?_toArray, List.getElem?_cons_succ, List.getElem?_cons_zero]; rfl)
                        refine step_appV rfl _ _ rfl rfl rfl rfl HRUN.out ?_
                        refine hK.out _ _ HBW.out (fun hHeld => ?_)
                        clear hK K
                        try simp only [Act.put, List.setIfInBounds_toArray, List.set_cons_succ, List.set_cons_zero]
                        clear hS
                        have hS := hHeld
                        clear hHeld
                        refine' wpAnyH_take (i := 17) ?h1x17e8x12x4x14x15x ?hsx17e8x12x4x14x15x ?hfx17e8x12x4x14x15x ?hrx17e8x12x4x14x15x ?hQx17e8x12x4x14x15x (Or.inl ⟨?hwx17e8x12x4x14x15x, ?hyx17e8x12x4x14x15x⟩) hS ?restx17e8x12x4x14x15x
                        case h1x17e8x12x4x14x15x => (simp only [List.getElem?_toArray, List.getElem?_cons_succ, List.getElem?_cons_zero]; rfl)
                        case hsx17e8x12x4x14x15x | hfx17e8x12x4x14x15x | hrx17e8x12x4x14x15x => kernel_rfl
                        case hQx17e8x12x4x14x15x => exact fun _ _ _ h => h
                        case hwx17e8x12x4x14x15x => rfl
                        case hyx17e8x12x4x14x15x =>
                          intro W hW
                          go_simp
                          try with_reducible rfl
                        simp only [Act.put, List.setIfInBounds_toArray, List.set_cons_succ, List.set_cons_zero]
                        refine' wpAnyH_take (i := 18) ?h1x18e8x12x4x14x15x ?hsx18e8x12x4x14x15x ?hfx18e8x12x4x14x15x ?hrx18e8x12x4x14x15x ?hQx18e8x12x4x14x15x (Or.inl ⟨?hwx18e8x12x4x14x15x, ?hyx18e8x12x4x14x15x⟩) hS ?restx18e8x12x4x14x15x
                        case h1x18e8x12x4x14x15x => (simp only [List.getElem?_toArray, List.getElem?_cons_succ, List.getElem?_cons_zero]; rfl)
                        case hsx18e8x12x4x14x15x | hfx18e8x12x4x14x15x | hrx18e8x12x4x14x15x => kernel_rfl
                        case hQx18e8x12x4x14x15x => exact fun _ _ _ h => h
                        case hwx18e8x12x4x14x15x => rfl
                        case hyx18e8x12x4x14x15x =>
                          intro W hW
                          go_simp
                          try with_reducible rfl
                        simp only [Act.put, List.setIfInBounds_toArray, List.set_cons_succ, List.set_cons_zero]
                        refine wpAnyH_ready (rs := [19]) (by kernel_rfl) (by simp) ?_
                        refine' AllReadyH.cons ?hoc19e8x12x4x14x15x (fun K hK => ?stc19e8x12x4x14x15x) AllReadyH.nil
                        case hoc19e8x12x4x14x15x => (simp only [List.getElem?_toArray, List.getElem?_cons_succ, List.getElem?_cons_zero]; rfl)
                        have dd : w1.cell? ⟨g, 0, none⟩ = some (.slice (some ⟨gw, 0, none⟩) n c) := cell_of_row _ _ 0 _ _ _ HG1.out
                        have df := frozen_of_row w1 g 0 _ 91 HG1.out
                        go_simp
                        refine hK.out _ _ (HBW.out.setCell WG.out _) (fun hHeld => ?_)
                        clear hK K dd df
                        try simp only [Act.put, List.setIfInBounds_toArray, List.set_cons_succ, List.set_cons_zero]
                        refine wpAnyH_done (by kernel_rfl) ?_ _
                        go_wp2_with fail
                        go_roundw
                        case rel => exact ⟨n + 1, q1, c1, _, by omega, by omega, by go_num, HNS1.out⟩
                        case measure => simp [intOf]; omega
                      case stc14e8x12x =>
                        go_simp
                        refine (refXored x8 4 c8 (lat (wk key 60) m) x 4 c' l Wd (L8.out.1.symm) (HA.out.1.symm) (by omega) (Nat.le_refl _) HW8.out.1 h7).mono ?_
                        rintro e We8x12x14x ⟨q9, c9, rfl, ho9, hb⟩
                        rw [← LN.out] at ho9 ⊢
                        rw [L9.out] at ho9 ⊢
                        have hwi : WI w.heap.size We8x12x14x (.slice q9 4 c9) (lat (wk key 60) n) := ho9.wi
                        have hns := hns.below hb
                        go_wp2_with fail
                        refine hK.out _ _ (hS.trans (hb.mono hS.size)) (fun hHeld => ?_)
                        clear hK K ho9 HW8 h7
                        try simp only [Act.put, List.setIfInBounds_toArray, List.set_cons_succ, List.set_cons_zero]
                        clear hb
                        clear hS
                        have hS := hHeld
                        clear hHeld
                        refine wpAnyH_ready (rs := [4, 15]) (by kernel_rfl) (by simp) ?_
                        refine' (AllReadyH.cons ?hoc4e8x12x14x (fun K hK => ?stc4e8x12x14x) (AllReadyH.cons ?hoc15e8x12x14x (fun K hK => ?stc15e8x12x14x) AllReadyH.nil))
                        case hoc4e8x12x14x => (simp only [List.getElem?_toArray, List.getElem?_cons_succ, List.getElem?_cons_zero]; rfl)
                        case hoc15e8x12x14x => (simp only [List.getElem?_toArray, List.getElem?_cons_succ, List.getElem?_cons_zero]; rfl)
                        case stc4e8x12x14x =>
                          have dd : We8x12x14x.cell? ⟨g, 0, none⟩ = some (.slice (some ⟨gw, 0, none⟩) n c) := cell_of_row _ _ 0 _ _ _ hns.1
                          go_simp
                          refine hK.out _ _ hS (fun hHeld => ?_)
                          clear hK K dd
                          try simp only [Act.put, List.setIfInBounds_toArray, List.set_cons_succ, List.set_cons_zero]
                          clear hS
                          have hS := hHeld
                          clear hHeld
                          refine wpAnyH_ready (rs := [15]) (by kernel_rfl) (by simp) ?_
                          refine' AllReadyH.cons ?hoc15e8x12x14x4x (fun K hK => ?stc15e8x12x14x4x) AllReadyH.nil
                          case hoc15e8x12x14x4x => (simp only [List.getElem?_toArray, List.getElem?_cons_succ, List.getElem?_cons_zero]; rfl)
                          go_simp
                          have hal : Below We8x12x14x.heap.size We8x12x14x (We8x12x14x.alloc (.cells #[.slice q9 4 c9] 31)) := (Below.refl _ _).alloc (Nat.le_refl _) _
                          refine hK.out _ _ (hS.trans (hal.mono hS.size)) (fun hHeld => ?_)
                          clear hK K
                          try simp only [Act.put, List.setIfInBounds_toArray, List.set_cons_succ, List.set_cons_zero]
                          obtain ⟨q1, c1, w1, hrun, hg1, hbw, hns1⟩ := hns.push LG2.out WG.out (by omega) _ _ hwi
                          have HRUN := Lib.hid hrun
                          have HG1 := Lib.hid hg1
                          have HBW := Lib.hid hbw
                          have HNS1 := Lib.hid hns1
                          have hns := hns.below hal
                          clear hS
                          have hS := hHeld
                          clear hHeld
                          clear hrun hg1 hbw hns1 hwi
                          generalize We8x12x14x.heap.size = gn at *
                          generalize (We8x12x14x.alloc (.cells #[.slice q9 4 c9] 31)) = We8x12x14x4x15x at *
                          refine wpAnyH_ready (rs := [16]) (by kernel_rfl) (by simp) ?_
                          refine' AllReadyH.cons ?hoc16e8x12x14x4x15x (fun K hK => ?stc16e8x12x14x4x15x) AllReadyH.nil
                          case hoc16e8x12x14x4x15x => (simp only [List.getElem?_toArray, List.getElem?_cons_succ, List.getElem?_cons_zero]; rfl)
                          refine step_appV rfl _ _ rfl rfl rfl rfl HRUN.out ?_
                          refine hK.out _ _ HBW.out (fun hHeld => ?_)
                          clear hK K
                          try simp only [Act.put, List.setIfInBounds_toArray, List.set_cons_succ, List.set_cons_zero]
                          clear hS
                          have hS := hHeld
                          clear hHeld
                          refine' wpAnyH_take (i := 17) ?h1x17e8x12x14x4x15x ?hsx17e8x12x14x4x15x ?hfx17e8x12x14x4x15x ?hrx17e8x12x14x4x15x ?hQx17e8x12x14x4x15x (Or.inl ⟨?hwx17e8x12x14x4x15x, ?hyx17e8x12x14x4x15x⟩) hS ?restx17e8x12x14x4x15x
                          case h1x17e8x12x14x4x15x => (simp only [List.getElem?_toArray, List.getElem?_cons_succ, List.getElem?_cons_zero]; rfl)
                          case hsx17e8x12x14x4x15x | hfx17e8x12x14x4x15x | hrx17e8x12x14x4x15x => kernel_rfl
                          case hQx17e8x12x14x4x15x => exact fun _ _ _ h => h
                          case hwx17e8x12x14x4x15x => rfl
                          case hyx17e8x12x14x4x15x =>
                            intro W hW
                            go_simp
                            try with_reducible rfl
                          simp only [Act.put, List.setIfInBounds_toArray, List.set_cons_succ, List.set_cons_zero]
                          refine' wpAnyH_take (i := 18) ?h1x18e8x12x14x4x15x ?hsx18e8x12x14x4x15x ?hfx18e8x12x14x4x15x ?hrx18e8x12x14x4x15x ?hQx18e8x12x14x4x15x (Or.inl ⟨?hwx18e8x12x14x4x15x, ?hyx18e8x12x14x4x15x⟩) hS ?restx18e8x12x14x4x15x
                          case h1x18e8x12x14x4x15x => (simp only [List.getElem?_toArray, List.getElem?_cons_succ, List.getElem?_cons_zero]; rfl)
                          case hsx18e8x12x14x4x15x | hfx18e8x12x14x4x15x | hrx18e8x12x14x4x15x => kernel_rfl
                          case hQx18e8x12x14x4x15x => exact fun _ _ _ h => h
                          case hwx18e8x12x14x4x15x => rfl
                          case hyx18e8x12x14x4x15x =>
                            intro W hW
                            go_simp
                            try with_reducible rfl
                          simp only [Act.put, List.setIfInBounds_toArray, List.set_cons_succ, List.set_cons_zero]
                          refine wpAnyH_ready (rs := [19]) (by kernel_rfl) (by simp) ?_
                          refine' AllReadyH.cons ?hoc19e8x12x14x4x15x (fun K hK => ?stc19e8x12x14x4x15x) AllReadyH.nil
                          case hoc19e8x12x14x4x15x => (simp only [List.getElem?_toArray, List.getElem?_cons_succ, List.getElem?_cons_zero]; rfl)
                          have dd : w1.cell? ⟨g, 0, none⟩ = some (.slice (some ⟨gw, 0, none⟩) n c) := cell_of_row _ _ 0 _ _ _ HG1.out
                          have df := frozen_of_row w1 g 0 _ 91 HG1.out
                          go_simp
                          refine hK.out _ _ (HBW.out.setCell WG.out _) (fun hHeld => ?_)
                          clear hK K dd df
                          try simp only [Act.put, List.setIfInBounds_toArray, List.set_cons_succ, List.set_cons_zero]
                          refine wpAnyH_done (by kernel_rfl) ?_ _
                          go_wp2_with fail
                          go_roundw
                          case rel => exact ⟨n + 1, q1, c1, _, by omega, by omega, by go_num, HNS1.out⟩
                          case measure => simp [intOf]; omega
                        case stc15e8x12x14x =>
                          go_simp
                          have hal : Below We8x12x14x.heap.size We8x12x14x (We8x12x14x.alloc (.cells #[.slice q9 4 c9] 31)) := (Below.refl _ _).alloc (Nat.le_refl _) _
                          refine hK.out _ _ (hS.trans (hal.mono hS.size)) (fun hHeld => ?_)
                          clear hK K
                          try simp only [Act.put, List.setIfInBounds_toArray, List.set_cons_succ, List.set_cons_zero]
                          obtain ⟨q1, c1, w1, hrun, hg1, hbw, hns1⟩ := hns.push LG2.out WG.out (by omega) _ _ hwi
                          have HRUN := Lib.hid hrun
                          have HG1 := Lib.hid hg1
                          have HBW := Lib.hid hbw
                          have HNS1 := Lib.hid hns1
                          have hns := hns.below hal
                          clear hS
                          have hS := hHeld
                          clear hHeld
                          clear hrun hg1 hbw hns1 hwi
                          generalize We8x12x14x.heap.size = gn at *
                          generalize (We8x12x14x.alloc (.cells #[.slice q9 4 c9] 31)) = We8x12x14x15x at *
                          refine wpAnyH_ready (rs := [4]) (by kernel_rfl) (by simp) ?_
                          refine' AllReadyH.cons ?hoc4e8x12x14x15x (fun K hK => ?stc4e8x12x14x15x) AllReadyH.nil
                          case hoc4e8x12x14x15x => (simp only [List.getElem?_toArray, List.getElem?_cons_succ, List.getElem?_cons_zero]; rfl)
                          have dd : We8x12x14x15x.cell? ⟨g, 0, none⟩ = some (.slice (some ⟨gw, 0, none⟩) n c) := cell_of_row _ _ 0 _ _ _ hns.1
                          go_simp
                          refine hK.out _ _ hS (fun hHeld => ?_)
                          clear hK K dd
                          try simp only [Act.put, List.setIfInBounds_toArray, List.set_cons_succ, List.set_cons_zero]
                          clear hS
                          have hS := hHeld
                          clear hHeld
                          refine wpAnyH_ready (rs := [16]) (by kernel_rfl) (by simp) ?_
                          refine' AllReadyH.cons ?hoc16e8x12x14x15x4x (fun K hK => ?stc16e8x12x14x15x4x) AllReadyH.nil
                          case hoc16e8x12x14x15x4x => (simp only [List.getElem?_toArray, List.getElem?_cons_succ, List.getElem?_cons_zero]; rfl)
                          refine step_appV rfl _ _ rfl rfl rfl rfl HRUN.out ?_
                          refine hK.out _ _ HBW.out (fun hHeld => ?_)
                          clear hK K
                          try simp only [Act.put, List.setIfInBounds_toArray, List.set_cons_succ, List.set_cons_zero]
                          clear hS
                          have hS := hHeld
                          clear hHeld
                          refine' wpAnyH_take (i := 17) ?h1x17e8x12x14x15x4x ?hsx17e8x12x14x15x4x ?hfx17e8x12x14x15x4x ?hrx17e8x12x14x15x4x ?hQx17e8x12x14x15x4x (Or.inl ⟨?hwx17e8x12x14x15x4x, ?hyx17e8x12x14x15x4x⟩) hS ?restx17e8x12x14x15x4x
                          case h1x17e8x12x14x15x4x => (simp only [List.getElem?_toArray, List.getElem?_cons_succ, List.getElem?_cons_zero]; rfl)
                          case hsx17e8x12x14x15x4x | hfx17e8x12x14x15x4x | hrx17e8x12x14x15x4x => kernel_rfl
                          case hQx17e8x12x14x15x4x => exact fun _ _ _ h => h
                          case hwx17e8x12x14x15x4x => rfl
                          case hyx17e8x12x14x15x4x =>
                            intro W hW
                            go_simp
                            try with_reducible rfl
                          simp only [Act.put, List.setIfInBounds_toArray, List.set_cons_succ, List.set_cons_zero]
                          refine' wpAnyH_take (i := 18) ?h1x18e8x12x14x15x4x ?hsx18e8x12x14x15x4x ?hfx18e8x12x14x15x4x ?hrx18e8x12x14x15x4x ?hQx18e8x12x14x15x4x (Or.inl ⟨?hwx18e8x12x14x15x4x, ?hyx18e8x12x14x15x4x⟩) hS ?restx18e8x12x14x15x4x
                          case h1x18e8x12x14x15x4x => (simp only [List.getElem?_toArray, List.getElem?_cons_succ, List.getElem?_cons_zero]; rfl)
                          case hsx18e8x12x14x15x4x | hfx18e8x12x14x15x4x | hrx18e8x12x14x15x4x => kernel_rfl
                          case hQx18e8x12x14x15x4x => exact fun _ _ _ h => h
                          case hwx18e8x12x14x15x4x => rfl
                          case hyx18e8x12x14x15x4x =>
                            intro W hW
                            go_simp
                            try with_reducible rfl
                          simp only [Act.put, List.setIfInBounds_toArray, List.set_cons_succ, List.set_cons_zero]
                          refine wpAnyH_ready (rs := [19]) (by kernel_rfl) (by simp) ?_
                          refine' AllReadyH.cons ?hoc19e8x12x14x15x4x (fun K hK => ?stc19e8x12x14x15x4x) AllReadyH.nil
                          case hoc19e8x12x14x15x4x => (simp only [List.getElem?_toArray, List.getElem?_cons_succ, List.getElem?_cons_zero]; rfl)
                          have dd : w1.cell? ⟨g, 0, none⟩ = some (.slice (some ⟨gw, 0, none⟩) n c) := cell_of_row _ _ 0 _ _ _ HG1.out
                          have df := frozen_of_row w1 g 0 _ 91 HG1.out
                          go_simp
                          refine hK.out _ _ (HBW.out.setCell WG.out _) (fun hHeld => ?_)
                          clear hK K dd df
                          try simp only [Act.put, List.setIfInBounds_toArray, List.set_cons_succ, List.set_cons_zero]
                          refine wpAnyH_done (by kernel_rfl) ?_ _
                          go_wp2_with fail
                          go_roundw
                          case rel => exact ⟨n + 1, q1, c1, _, by omega, by omega, by go_num, HNS1.out⟩
                          case measure => simp [intOf]; omega
            · have hn60e : n = 60 := by omega
              have hnl3 : ¬ (n : Int) < 60 := by omega
              rw [hn60e] at hns
              clear hn60e hn8 hn60 hlt
              have NSE := Lib.hid hns
              clear hns
              go_wp2_with fail
              go_ret
              refine ⟨g, rfl, ?_, NSE.out.2.2.2.2.2.1⟩
              obtain ⟨gw, hq, hword⟩ := NSE.out.word (by omega)
              obtain ⟨zq, zc, e1, e2, e3⟩ := KS.out
              refine ⟨gw, c, some ⟨gb, ob, none⟩, cb, zq, zc, ?_, fun i hi => ?_, NSE.out.re SB.out (fun k hk => by simp [Value.ownBlock] at hk; rw [← hk]; exact NE.out), NSE.out.re e2 e3⟩
              · have := NSE.out.1
                rw [hq, HVB.out, e1] at this
                exact this
              · obtain ⟨x, c', h1, h2⟩ := hword i hi
                exact ⟨x, c', h1, h2.1⟩
end Go.Proofs.YtpkeofioobmmoaaGreatDoor.ae
