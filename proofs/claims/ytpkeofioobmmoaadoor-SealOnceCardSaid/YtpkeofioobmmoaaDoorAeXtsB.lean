/-
  Contracts of the functions that the statements of package xts go through: which bytes are a sector; a new cipher. Condition: the numbers are bytes.
-/
import Derived.Test.YtpkeofioobmmoaaDoorAeXtsA
namespace Go.Proofs.YtpkeofioobmmoaaDoor.ae
open Go.RowKit
set_option maxRecDepth 100000 in
theorem isSecYes (x : Option Addr) (n cap : Nat) (h0 : 0 < n) (h1 : n % 16 = 0) (h2 : n ≤ 65536) (w : World) : Calls Tryd.prog 74 #[.slice x n cap] w fun e w' => e = .returned (.bool true) ∧ w = w' := by
  have a0 : (0 : Int) < n := by omega
  have a1 : (n : Int) % 16 = 0 := by omega
  have a2 : (n : Int) ≤ 65536 := by omega
  have b1 : (n : Int).tmod 16 = 0 := by rw [Int.tmod_eq_emod_of_nonneg (by omega)]; exact a1
  go_enter Tryd.func74, Tryd.ntmps74
  go_wp2
  go_ret
  exact ⟨rfl, rfl⟩
set_option maxRecDepth 100000 in
theorem isSecNo (x : Option Addr) (n cap : Nat) (hm : n ≤ 9223372036854775807) (h : n = 0 ∨ n % 16 ≠ 0 ∨ 65536 < n) (w : World) : Calls Tryd.prog 74 #[.slice x n cap] w fun e w' => e = .returned (.bool false) ∧ w = w' := by
  by_cases h0 : n = 0
  · subst h0
    go_enter Tryd.func74, Tryd.ntmps74
    go_wp2
    go_ret
    exact ⟨rfl, rfl⟩
  · have a0 : (0 : Int) < n := by omega
    by_cases h1 : n % 16 = 0
    · have a1 : (n : Int) % 16 = 0 := by omega
      have a2 : ¬ (n : Int) ≤ 65536 := by omega
      clear h h0 h1
      go_enter Tryd.func74, Tryd.ntmps74
      go_wp2
      go_ret
      exact ⟨rfl, rfl⟩
    · obtain ⟨r, hr⟩ : ∃ r, r = n % 16 := ⟨_, rfl⟩
      have a1 : (n : Int) % 16 = (r : Int) := by omega
      have a3 : ((r : Int) == 0) = false := by simp; omega
      clear h h0 h1 hr
      go_enter Tryd.func74, Tryd.ntmps74
      go_wp2
      go_ret
      exact ⟨rfl, rfl⟩
/-- A cipher of two keys lies in block g. -/
def XIat (W : World) (g : Nat) (F1 F2 : List Nat) : Prop := ∃ g1 g2, W.heap[g]? = some (.cells #[.pointer (some ⟨g1, 0, none⟩), .pointer (some ⟨g2, 0, none⟩)] 94 (0, 0)) ∧ CIat W g1 F1 ∧ CIat W g2 F2
set_option maxRecDepth 100000 in
theorem XIat.below {W W' : World} {g : Nat} {F1 F2 : List Nat} (h : XIat W g F1 F2) (hb : Below W.heap.size W W') : XIat W' g F1 F2 := by
  obtain ⟨g1, g2, h0, h1, h2⟩ := h
  exact ⟨g1, g2, (hb.block _ (blk_lt h0)).trans h0, h1.below hb, h2.below hb⟩
def NewX (w : World) (F1 F2 : List Nat) (e : Ending) (w' : World) : Prop := ∃ g, e = .returned (.pointer (some ⟨g, 0, none⟩)) ∧ XIat w' g F1 F2 ∧ Below w.heap.size w w'
set_option maxRecDepth 100000 in
set_option maxHeartbeats 4000000 in
theorem newX (k1 k2 : List Nat) (h1 : Bts 32 k1) (h2 : Bts 32 k2) (w : World) : Calls Tryd.prog 48 #[.agg (ncells k1), .agg (ncells k2)] w (NewX w (flat k1) (flat k2)) := by
  have N1 : Hid (∀ W : World, Calls Tryd.prog 46 #[.agg (ncells k1)] W (NewP W (flat k1))) := fun W => newC k1 h1 W
  have N2 : Hid (∀ W : World, Calls Tryd.prog 46 #[.agg (ncells k2)] W (NewP W (flat k2))) := fun W => newC k2 h2 W
  have L1 := Lib.hid h1.1
  have L2 := Lib.hid h2.1
  generalize flat k1 = F1 at *
  generalize flat k2 = F2 at *
  obtain ⟨W0, hW0⟩ : ∃ W0, W0 = (w.alloc (.cells (ncells k1) 38)).alloc (.cells (ncells k2) 38) := ⟨_, rfl⟩
  have HB : Hid (Below w.heap.size w W0) := by rw [hW0]; exact ((Below.refl _ _).alloc (Nat.le_refl _) _).alloc (by simp) _
  have G0 : Hid (W0.heap[w.heap.size]? = some (.cells (ncells k1) 38 (0, 0))) := by show _ = _; rw [hW0, Below.heap_alloc _ _ _ (by simp)]; exact heap_alloc_new w _
  have G1 : Hid (W0.heap[w.heap.size + 1]? = some (.cells (ncells k2) 38 (0, 0))) := by show _ = _; rw [hW0]; exact heap_alloc2_new w _ _
  have HW0 := Lib.hid hW0
  clear hW0 h1 h2
  go_enter Tryd.func48, Tryd.ntmps48
  go_wp2_with fail
  rw [← HW0.out]
  refine wp_region_held_drew (S := fun W => Below W0.heap.size W0 W) (by kernel_rfl) (Below.refl _ _).drew (fun hS => ?_)
  refine' wpAnyH_take (i := 0) ?h1x0p ?hsx0p ?hfx0p ?hrx0p ?hQx0p (yieldsIf_load_at ?hwx0p 38 (.tmp 2) ?hopx0p w.heap.size 0 rfl (ncells k1) _ (fun W hW => range_row ((hW.block _ (blk_lt G0.out)).trans G0.out)) Tryd.underlying38 rfl ?hix0p) hS ?restx0p
  case h1x0p => (simp only [List.getElem?_toArray, List.getElem?_cons_zero]; rfl)
  case hopx0p => rfl
  case hsx0p => kernel_rfl
  case hfx0p => kernel_rfl
  case hrx0p => kernel_rfl
  case hQx0p => exact fun _ _ _ h => h
  case hwx0p => rfl
  case hix0p => exact (i23 L1.out)
  simp only [Act.put, List.setIfInBounds_toArray, List.set_cons_succ, List.set_cons_zero]
  refine' wpAnyH_take (i := 2) ?h1x2p ?hsx2p ?hfx2p ?hrx2p ?hQx2p (yieldsIf_load_at ?hwx2p 38 (.tmp 3) ?hopx2p (w.heap.size + 1) 0 rfl (ncells k2) _ (fun W hW => range_row ((hW.block _ (blk_lt G1.out)).trans G1.out)) Tryd.underlying38 rfl ?hix2p) hS ?restx2p
  case h1x2p => (simp only [List.getElem?_toArray, List.getElem?_cons_succ, List.getElem?_cons_zero]; rfl)
  case hopx2p => rfl
  case hsx2p => kernel_rfl
  case hfx2p => kernel_rfl
  case hrx2p => kernel_rfl
  case hQx2p => exact fun _ _ _ h => h
  case hwx2p => rfl
  case hix2p => exact (i23 L2.out)
  simp only [Act.put, List.setIfInBounds_toArray, List.set_cons_succ, List.set_cons_zero]
  refine wpAnyH_ready (rs := [1]) (by kernel_rfl) (by simp) ?_
  refine' AllReadyH.cons ?hoc1p (fun K hK => ?stc1p) AllReadyH.nil
  case hoc1p => (simp only [List.getElem?_toArray, List.getElem?_cons_succ, List.getElem?_cons_zero]; rfl)
  go_simp
  refine (N1.out _).mono ?_
  rintro e w1 ⟨g1, rfl, hge1, hci1, hb⟩
  go_wp2_with fail
  refine hK.out _ _ (hS.trans (hb.mono hS.size)) (fun hHeld => ?_)
  clear hK K
  try simp only [Act.put, List.setIfInBounds_toArray, List.set_cons_succ, List.set_cons_zero]
  have C1 := Lib.hid hci1
  clear hci1 hge1
  clear hS hb
  have hS := hHeld
  clear hHeld
  refine wpAnyH_ready (rs := [3]) (by kernel_rfl) (by simp) ?_
  refine' AllReadyH.cons ?hoc3p (fun K hK => ?stc3p) AllReadyH.nil
  case hoc3p => (simp only [List.getElem?_toArray, List.getElem?_cons_succ, List.getElem?_cons_zero]; rfl)
  go_simp
  refine (N2.out _).mono ?_
  rintro e w2 ⟨g2, rfl, hge2, hci2, hb⟩
  go_wp2_with fail
  refine hK.out _ _ (hS.trans (hb.mono hS.size)) (fun hHeld => ?_)
  clear hK K
  try simp only [Act.put, List.setIfInBounds_toArray, List.set_cons_succ, List.set_cons_zero]
  have C2 := Lib.hid hci2
  have C1b := Lib.hid (C1.out.below hb)
  clear hci2 hge2 C1
  clear hS hb
  have hS := hHeld
  clear hHeld
  refine' wpAnyH_take (i := 4) ?h1x4p ?hsx4p ?hfx4p ?hrx4p ?hQx4p (Or.inl ⟨?hwx4p, ?hyx4p⟩) hS ?restx4p
  case h1x4p => (simp only [List.getElem?_toArray, List.getElem?_cons_succ, List.getElem?_cons_zero]; rfl)
  case hsx4p => kernel_rfl
  case hfx4p => kernel_rfl
  case hrx4p => kernel_rfl
  case hQx4p => exact fun _ _ _ h => h
  case hwx4p => rfl
  case hyx4p =>
    intro W hW
    go_simp
    try with_reducible rfl
  simp only [Act.put, List.setIfInBounds_toArray, List.set_cons_succ, List.set_cons_zero]
  refine wpAnyH_ready (rs := [5]) (by kernel_rfl) (by simp) ?_
  refine' AllReadyH.cons ?hoc5p (fun K hK => ?stc5p) AllReadyH.nil
  case hoc5p => (simp only [List.getElem?_toArray, List.getElem?_cons_succ, List.getElem?_cons_zero]; rfl)
  go_simp
  refine hK.out _ _ (hS.alloc hS.size _) (fun hHeld => ?_)
  clear hK K
  try simp only [Act.put, List.setIfInBounds_toArray, List.set_cons_succ, List.set_cons_zero]
  have hz := heap_alloc_new w2 (.cells #[.pointer (some ⟨g1, 0, none⟩), .pointer (some ⟨g2, 0, none⟩)] 94)
  have hb2 : Below w2.heap.size w2 (w2.alloc (.cells #[.pointer (some ⟨g1, 0, none⟩), .pointer (some ⟨g2, 0, none⟩)] 94)) := (Below.refl _ _).alloc (Nat.le_refl _) _
  have XX : Hid (XIat (w2.alloc (.cells #[.pointer (some ⟨g1, 0, none⟩), .pointer (some ⟨g2, 0, none⟩)] 94)) w2.heap.size F1 F2) := ⟨g1, g2, hz, C1b.out.below hb2, C2.out.below hb2⟩
  clear hz hb2 hS
  have hS := hHeld
  clear hHeld
  refine' wpAnyH_take (i := 6) ?h1x6p ?hsx6p ?hfx6p ?hrx6p ?hQx6p (Or.inl ⟨?hwx6p, ?hyx6p⟩) hS ?restx6p
  case h1x6p => (simp only [List.getElem?_toArray, List.getElem?_cons_succ, List.getElem?_cons_zero]; rfl)
  case hsx6p => kernel_rfl
  case hfx6p => kernel_rfl
  case hrx6p => kernel_rfl
  case hQx6p => exact fun _ _ _ h => h
  case hwx6p => rfl
  case hyx6p =>
    intro W hW
    go_simp
    try with_reducible rfl
  simp only [Act.put, List.setIfInBounds_toArray, List.set_cons_succ, List.set_cons_zero]
  refine wpAnyH_done (by kernel_rfl) ?_ _
  go_wp2_with fail
  go_ret
  exact ⟨_, rfl, XX.out, HB.out.trans (hS.mono HB.out.size)⟩
end Go.Proofs.YtpkeofioobmmoaaDoor.ae
