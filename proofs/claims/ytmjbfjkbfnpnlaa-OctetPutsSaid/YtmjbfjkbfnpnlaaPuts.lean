/-
  For every four numbers of 8, 16, 32 and 64 digits, every slice of bytes and every place the law OctetPuts of package casematelaw01 returns true, and the arguments read afterwards as before: numbers of all widths become bytes, and are read of bytes, or there are too few, as the document says. Condition: none.
-/
import Derived.Test.YtmjbfjkbfnpnlaaPutsA
import Derived.Deep.RegionHeld3
import Derived.Deep.DrawnRows
namespace Go.Proofs.Ytmjbfjkbfnpnlaa.octetPuts
open Go.ChangeShapes Go.WideShapes Go.ChangeAt Go.RowKit
attribute [local go_sem ↓] Go.wp_at_zero Go.wp_at_succ

set_option linter.unusedSimpArgs false
set_option maxRecDepth 100000 in
set_option maxHeartbeats 8000000 in
theorem walk_small (a b c d p : Int) (ha : 0 ≤ a ∧ a ≤ 255) (hb : 0 ≤ b ∧ b ≤ 65535) (hc : 0 ≤ c ∧ c ≤ 4294967295) (hd : 0 ≤ d ∧ d ≤ 18446744073709551615) (hp : -9223372036854775808 ≤ p ∧ p ≤ 9223372036854775807) (v : Value) (xs : List Int) (hl : xs.length ≤ 2000) (w : World) (h : Sees w v xs) :
    Calls Try.prog 3 #[.int .u8 a, .int .u16 b, .int .u32 c, .int .u64 d, v, .int .i64 p] w fun e w' => e = .returned (.bool true) ∧ Below w.heap.size w w' := by
  obtain ⟨x, cap, rfl, h63⟩ := h.form
  have H := Lib.hid h
  have g1 := getV_bd xs p 1 h.1
  have g2 := getV_bd xs p 2 h.1
  have g4 := getV_bd xs p 4 h.1
  have g8 := getV_bd xs p 8 h.1
  have C1 := Lib.hid (get8 (.slice x xs.length cap) xs p hp w h)
  have D1 := Lib.hid (refGet (.slice x xs.length cap) xs p 1 (by omega) hl hp w h)
  have C2 := Lib.hid (get16 (.slice x xs.length cap) xs p hp w h)
  have D2 := Lib.hid (refGet (.slice x xs.length cap) xs p 2 (by omega) hl hp w h)
  have C4 := Lib.hid (get32 (.slice x xs.length cap) xs p hp w h)
  have D4 := Lib.hid (refGet (.slice x xs.length cap) xs p 4 (by omega) hl hp w h)
  have C8 := Lib.hid (get64 (.slice x xs.length cap) xs p hp w h)
  have D8 := Lib.hid (refGet (.slice x xs.length cap) xs p 8 (by omega) hl hp w h)
  generalize getV xs p 1 = X1 at g1 C1 D1
  generalize getE xs.length p 1 = E1 at C1 D1
  obtain ⟨x1a, x1b⟩ := g1
  have x1c : X1 ≤ 255 := by omega
  clear x1b
  generalize getV xs p 2 = X2 at g2 C2 D2
  generalize getE xs.length p 2 = E2 at C2 D2
  obtain ⟨x2a, x2b⟩ := g2
  have x2c : X2 ≤ 65535 := by omega
  clear x2b
  generalize getV xs p 4 = X4 at g4 C4 D4
  generalize getE xs.length p 4 = E4 at C4 D4
  obtain ⟨x4a, x4b⟩ := g4
  have x4c : X4 ≤ 4294967295 := by omega
  clear x4b
  generalize getV xs p 8 = X8 at g8 C8 D8
  generalize getE xs.length p 8 = E8 at C8 D8
  obtain ⟨x8a, x8b⟩ := g8
  have x8c : X8 ≤ 18446744073709551615 := by omega
  clear x8b
  have WWa : Hid (IntKind.u64.wrap a = a) := by show _ = _; rw [IntKind.wrap_u64]; omega
  have WWb : Hid (IntKind.u64.wrap b = b) := by show _ = _; rw [IntKind.wrap_u64]; omega
  have WWc : Hid (IntKind.u64.wrap c = c) := by show _ = _; rw [IntKind.wrap_u64]; omega
  obtain ⟨a0, a1⟩ := ha
  obtain ⟨b0, b1⟩ := hb
  obtain ⟨c0, c1⟩ := hc
  obtain ⟨d0, d1⟩ := hd
  clear h
  go_enter Try.func3, Try.ntmps3
  go_wp2_with fail
  refine C1.out.mono ?_
  rintro e w' ⟨rfl, rfl⟩
  go_wp2_with fail
  refine C2.out.mono ?_
  rintro e w' ⟨rfl, rfl⟩
  go_wp2_with fail
  refine C4.out.mono ?_
  rintro e w' ⟨rfl, rfl⟩
  go_wp2_with fail
  refine C8.out.mono ?_
  rintro e w' ⟨rfl, rfl⟩
  go_wp2_with fail
  refine D1.out.mono ?_
  rintro e w' ⟨rfl, rfl⟩
  go_wp2_with fail
  refine D2.out.mono ?_
  rintro e w' ⟨rfl, rfl⟩
  go_wp2_with fail
  refine D4.out.mono ?_
  rintro e w' ⟨rfl, rfl⟩
  go_wp2_with fail
  refine D8.out.mono ?_
  rintro e w' ⟨rfl, rfl⟩
  clear C1 C2 C4 C8 D1 D2 D4 D8
  go_wp2_with fail
  refine wp_region_noPanic ?_
  refine wp_region_held_drew (S := fun W => Below w.heap.size w W) (by kernel_rfl) (Below.refl _ _).drew (fun hS => ?_)
  refine wpAnyH_ready (rs := [0]) (by kernel_rfl) (by simp) ?_
  refine' AllReadyH.cons ?hoc0 (fun K hK => ?stc0) AllReadyH.nil
  case hoc0 => (simp only [List.getElem?_toArray, List.getElem?_cons_succ, List.getElem?_cons_zero]; rfl)
  go_simp
  refine (alive _).mono ?_
  rintro e w1 ⟨rfl, hb⟩
  go_wp2_with fail
  refine hK.out _ _ (hS.trans (hb.mono hS.size)) (fun hHeld => ?_)
  clear hK K hHeld
  try simp only [Act.put, List.setIfInBounds_toArray, List.set_cons_zero, List.set_cons_succ]
  have B1 : Hid (Below w.heap.size w w1) := hS.trans (hb.mono hS.size)
  clear hb hS
  refine more (S' := fun W => Below w1.heap.size w1 W) (fun W hW => B1.out.trans (hW.mono B1.out.size)) _ _ _ _ ?_
  have hS : Below w1.heap.size w1 w1 := Below.refl _ _
  refine' wpAnyH_take (i := 1) ?h1x1 ?hsx1 ?hfx1 ?hrx1 ?hQx1 (Or.inl ⟨?hwx1, ?hyx1⟩) hS ?restx1
  case h1x1 => (simp only [List.getElem?_toArray, List.getElem?_cons_succ, List.getElem?_cons_zero]; rfl)
  case hsx1 => kernel_rfl
  case hfx1 => kernel_rfl
  case hrx1 => kernel_rfl
  case hQx1 => exact fun _ _ _ h => h
  case hwx1 => rfl
  case hyx1 =>
    intro W hW
    go_simp
    try with_reducible rfl
  simp only [Act.put, List.setIfInBounds_toArray, List.set_cons_succ, List.set_cons_zero]
  refine' wpAnyH_take (i := 2) ?h1x2 ?hsx2 ?hfx2 ?hrx2 ?hQx2 (Or.inl ⟨?hwx2, ?hyx2⟩) hS ?restx2
  case h1x2 => (simp only [List.getElem?_toArray, List.getElem?_cons_succ, List.getElem?_cons_zero]; rfl)
  case hsx2 => kernel_rfl
  case hfx2 => kernel_rfl
  case hrx2 => kernel_rfl
  case hQx2 => exact fun _ _ _ h => h
  case hwx2 => rfl
  case hyx2 =>
    intro W hW
    go_simp
    try with_reducible rfl
  simp only [Act.put, List.setIfInBounds_toArray, List.set_cons_succ, List.set_cons_zero]
  refine' wpAnyH_take (i := 5) ?h1x5 ?hsx5 ?hfx5 ?hrx5 ?hQx5 (Or.inl ⟨?hwx5, ?hyx5⟩) hS ?restx5
  case h1x5 => (simp only [List.getElem?_toArray, List.getElem?_cons_succ, List.getElem?_cons_zero]; rfl)
  case hsx5 => kernel_rfl
  case hfx5 => kernel_rfl
  case hrx5 => kernel_rfl
  case hQx5 => exact fun _ _ _ h => h
  case hwx5 => rfl
  case hyx5 =>
    intro W hW
    go_simp
    try with_reducible rfl
  simp only [Act.put, List.setIfInBounds_toArray, List.set_cons_succ, List.set_cons_zero]
  refine' wpAnyH_take (i := 6) ?h1x6 ?hsx6 ?hfx6 ?hrx6 ?hQx6 (Or.inl ⟨?hwx6, ?hyx6⟩) hS ?restx6
  case h1x6 => (simp only [List.getElem?_toArray, List.getElem?_cons_succ, List.getElem?_cons_zero]; rfl)
  case hsx6 => kernel_rfl
  case hfx6 => kernel_rfl
  case hrx6 => kernel_rfl
  case hQx6 => exact fun _ _ _ h => h
  case hwx6 => rfl
  case hyx6 =>
    intro W hW
    go_simp
    try with_reducible rfl
  simp only [Act.put, List.setIfInBounds_toArray, List.set_cons_succ, List.set_cons_zero]
  refine wpAnyH_ready (rs := [3]) (by kernel_rfl) (by simp) ?_
  refine' AllReadyH.cons ?hoc3 (fun K hK => ?stc3) AllReadyH.nil
  case hoc3 => (simp only [List.getElem?_toArray, List.getElem?_cons_succ, List.getElem?_cons_zero]; rfl)
  go_simp
  refine (putb8 a a0 a1 _).mono ?_
  rintro e w2 ⟨q2, rfl, hs, hb, _⟩
  go_wp2_with fail
  refine hK.out _ _ (hS.trans (hb.mono hS.size)) (fun hHeld => ?_)
  clear hK K hHeld
  try simp only [Act.put, List.setIfInBounds_toArray, List.set_cons_zero, List.set_cons_succ]
  have B2 : Hid (Below w1.heap.size w1 w2) := hS.trans (hb.mono hS.size)
  have cv2 : ∀ W, Below w2.heap.size w2 W → (convert 25 9 (.slice (some ⟨q2, 0, none⟩) 1 1)).run Try.prog W = .ok (.string (strOfNums (be 1 a))) W := fun W hW => (hs.below hW).str
  clear hb hs hS
  refine more (S' := fun W => Below w2.heap.size w2 W) (fun W hW => B2.out.trans (hW.mono B2.out.size)) _ _ _ _ ?_
  have hS : Below w2.heap.size w2 w2 := Below.refl _ _
  refine' wpAnyH_take (i := 4) ?h1x4 ?hsx4 ?hfx4 ?hrx4 ?hQx4 (Or.inl ⟨?hwx4, ?hyx4⟩) hS ?restx4
  case h1x4 => (simp only [List.getElem?_toArray, List.getElem?_cons_succ, List.getElem?_cons_zero]; rfl)
  case hsx4 => kernel_rfl
  case hfx4 => kernel_rfl
  case hrx4 => kernel_rfl
  case hQx4 => exact fun _ _ _ h => h
  case hwx4 => rfl
  case hyx4 =>
    intro W hW
    go_simp
    try with_reducible rfl
  simp only [Act.put, List.setIfInBounds_toArray, List.set_cons_succ, List.set_cons_zero]
  refine wpAnyH_ready (rs := [7]) (by kernel_rfl) (by simp) ?_
  refine' AllReadyH.cons ?hoc7 (fun K hK => ?stc7) AllReadyH.nil
  case hoc7 => (simp only [List.getElem?_toArray, List.getElem?_cons_succ, List.getElem?_cons_zero]; rfl)
  go_simp
  rw [WWa.out]
  refine (refBytes1 a a0 (by omega) _).mono ?_
  rintro e w3 ⟨y3, z3, rfl, ho, hb⟩
  go_wp2_with fail
  refine hK.out _ _ (hS.trans (hb.mono hS.size)) (fun hHeld => ?_)
  clear hK K hHeld
  try simp only [Act.put, List.setIfInBounds_toArray, List.set_cons_zero, List.set_cons_succ]
  have B3 : Hid (Below w2.heap.size w2 w3) := hS.trans (hb.mono hS.size)
  have cv3 : ∀ W, Below w3.heap.size w3 W → (convert 25 9 (.slice y3 (be 1 a).length z3)).run Try.prog W = .ok (.string (strOfNums (be 1 a))) W := fun W hW => (ho.sees.below hW).str
  clear hb ho hS
  refine more (S' := fun W => Below w3.heap.size w3 W) (fun W hW => B3.out.trans (hW.mono B3.out.size)) _ _ _ _ ?_
  have hS : Below w3.heap.size w3 w3 := Below.refl _ _
  refine' wpAnyH_take (i := 8) ?h1x8 ?hsx8 ?hfx8 ?hrx8 ?hQx8 (Or.inl ⟨?hwx8, ?hyx8⟩) hS ?restx8
  case h1x8 => (simp only [List.getElem?_toArray, List.getElem?_cons_succ, List.getElem?_cons_zero]; rfl)
  case hsx8 => kernel_rfl
  case hfx8 => kernel_rfl
  case hrx8 => kernel_rfl
  case hQx8 => exact fun _ _ _ h => h
  case hwx8 => rfl
  case hyx8 =>
    intro W hW
    go_simp
    try with_reducible rfl
  simp only [Act.put, List.setIfInBounds_toArray, List.set_cons_succ, List.set_cons_zero]
  refine' wpAnyH_take (i := 9) ?h1x9 ?hsx9 ?hfx9 ?hrx9 ?hQx9 (Or.inl ⟨?hwx9, ?hyx9⟩) hS ?restx9
  case h1x9 => (simp only [List.getElem?_toArray, List.getElem?_cons_succ, List.getElem?_cons_zero]; rfl)
  case hsx9 => kernel_rfl
  case hfx9 => kernel_rfl
  case hrx9 => kernel_rfl
  case hQx9 => exact fun _ _ _ h => h
  case hwx9 => rfl
  case hyx9 =>
    intro W hW
    go_simp
    try with_reducible rfl
  simp only [Act.put, List.setIfInBounds_toArray, List.set_cons_succ, List.set_cons_zero]
  refine' wpAnyH_take (i := 10) ?h1x10 ?hsx10 ?hfx10 ?hrx10 ?hQx10 (Or.inl ⟨?hwx10, ?hyx10⟩) hS ?restx10
  case h1x10 => (simp only [List.getElem?_toArray, List.getElem?_cons_succ, List.getElem?_cons_zero]; rfl)
  case hsx10 => kernel_rfl
  case hfx10 => kernel_rfl
  case hrx10 => kernel_rfl
  case hQx10 => exact fun _ _ _ h => h
  case hwx10 => rfl
  case hyx10 =>
    intro W hW
    go_simp
    try with_reducible rfl
  simp only [Act.put, List.setIfInBounds_toArray, List.set_cons_succ, List.set_cons_zero]
  refine' wpAnyH_take (i := 11) ?h1x11 ?hsx11 ?hfx11 ?hrx11 ?hQx11 (Or.inl ⟨?hwx11, ?hyx11⟩) hS ?restx11
  case h1x11 => (simp only [List.getElem?_toArray, List.getElem?_cons_succ, List.getElem?_cons_zero]; rfl)
  case hsx11 => kernel_rfl
  case hfx11 => kernel_rfl
  case hrx11 => kernel_rfl
  case hQx11 => exact fun _ _ _ h => h
  case hwx11 => rfl
  case hyx11 =>
    intro W hW
    go_simp
    try with_reducible rfl
  simp only [Act.put, List.setIfInBounds_toArray, List.set_cons_succ, List.set_cons_zero]
  refine' wpAnyH_take (i := 12) ?h1x12 ?hsx12 ?hfx12 ?hrx12 ?hQx12 (Or.inl ⟨?hwx12, ?hyx12⟩) hS ?restx12
  case h1x12 => (simp only [List.getElem?_toArray, List.getElem?_cons_succ, List.getElem?_cons_zero]; rfl)
  case hsx12 => kernel_rfl
  case hfx12 => kernel_rfl
  case hrx12 => kernel_rfl
  case hQx12 => exact fun _ _ _ h => h
  case hwx12 => rfl
  case hyx12 =>
    intro W hW
    go_simp
    try with_reducible rfl
  simp only [Act.put, List.setIfInBounds_toArray, List.set_cons_succ, List.set_cons_zero]
  refine' wpAnyH_take (i := 15) ?h1x15 ?hsx15 ?hfx15 ?hrx15 ?hQx15 (Or.inl ⟨?hwx15, ?hyx15⟩) hS ?restx15
  case h1x15 => (simp only [List.getElem?_toArray, List.getElem?_cons_succ, List.getElem?_cons_zero]; rfl)
  case hsx15 => kernel_rfl
  case hfx15 => kernel_rfl
  case hrx15 => kernel_rfl
  case hQx15 => exact fun _ _ _ h => h
  case hwx15 => rfl
  case hyx15 =>
    intro W hW
    go_simp
    try with_reducible rfl
  simp only [Act.put, List.setIfInBounds_toArray, List.set_cons_succ, List.set_cons_zero]
  refine' wpAnyH_take (i := 16) ?h1x16 ?hsx16 ?hfx16 ?hrx16 ?hQx16 (Or.inl ⟨?hwx16, ?hyx16⟩) hS ?restx16
  case h1x16 => (simp only [List.getElem?_toArray, List.getElem?_cons_succ, List.getElem?_cons_zero]; rfl)
  case hsx16 => kernel_rfl
  case hfx16 => kernel_rfl
  case hrx16 => kernel_rfl
  case hQx16 => exact fun _ _ _ h => h
  case hwx16 => rfl
  case hyx16 =>
    intro W hW
    go_simp
    try with_reducible rfl
  simp only [Act.put, List.setIfInBounds_toArray, List.set_cons_succ, List.set_cons_zero]
  refine wpAnyH_ready (rs := [13]) (by kernel_rfl) (by simp) ?_
  refine' AllReadyH.cons ?hoc13 (fun K hK => ?stc13) AllReadyH.nil
  case hoc13 => (simp only [List.getElem?_toArray, List.getElem?_cons_succ, List.getElem?_cons_zero]; rfl)
  go_simp
  refine (putb16 b b0 b1 _).mono ?_
  rintro e w4 ⟨q4, rfl, hs, hb, _⟩
  go_wp2_with fail
  refine hK.out _ _ (hS.trans (hb.mono hS.size)) (fun hHeld => ?_)
  clear hK K hHeld
  try simp only [Act.put, List.setIfInBounds_toArray, List.set_cons_zero, List.set_cons_succ]
  have B4 : Hid (Below w3.heap.size w3 w4) := hS.trans (hb.mono hS.size)
  have cv4 : ∀ W, Below w4.heap.size w4 W → (convert 25 9 (.slice (some ⟨q4, 0, none⟩) 2 2)).run Try.prog W = .ok (.string (strOfNums (be 2 b))) W := fun W hW => (hs.below hW).str
  clear hb hs hS
  refine more (S' := fun W => Below w4.heap.size w4 W) (fun W hW => B4.out.trans (hW.mono B4.out.size)) _ _ _ _ ?_
  have hS : Below w4.heap.size w4 w4 := Below.refl _ _
  refine' wpAnyH_take (i := 14) ?h1x14 ?hsx14 ?hfx14 ?hrx14 ?hQx14 (Or.inl ⟨?hwx14, ?hyx14⟩) hS ?restx14
  case h1x14 => (simp only [List.getElem?_toArray, List.getElem?_cons_succ, List.getElem?_cons_zero]; rfl)
  case hsx14 => kernel_rfl
  case hfx14 => kernel_rfl
  case hrx14 => kernel_rfl
  case hQx14 => exact fun _ _ _ h => h
  case hwx14 => rfl
  case hyx14 =>
    intro W hW
    go_simp
    try with_reducible rfl
  simp only [Act.put, List.setIfInBounds_toArray, List.set_cons_succ, List.set_cons_zero]
  refine wpAnyH_ready (rs := [17]) (by kernel_rfl) (by simp) ?_
  refine' AllReadyH.cons ?hoc17 (fun K hK => ?stc17) AllReadyH.nil
  case hoc17 => (simp only [List.getElem?_toArray, List.getElem?_cons_succ, List.getElem?_cons_zero]; rfl)
  go_simp
  rw [WWb.out]
  refine (refBytes2 b b0 (by omega) _).mono ?_
  rintro e w5 ⟨y5, z5, rfl, ho, hb⟩
  go_wp2_with fail
  refine hK.out _ _ (hS.trans (hb.mono hS.size)) (fun hHeld => ?_)
  clear hK K hHeld
  try simp only [Act.put, List.setIfInBounds_toArray, List.set_cons_zero, List.set_cons_succ]
  have B5 : Hid (Below w4.heap.size w4 w5) := hS.trans (hb.mono hS.size)
  have cv5 : ∀ W, Below w5.heap.size w5 W → (convert 25 9 (.slice y5 (be 2 b).length z5)).run Try.prog W = .ok (.string (strOfNums (be 2 b))) W := fun W hW => (ho.sees.below hW).str
  clear hb ho hS
  refine more (S' := fun W => Below w5.heap.size w5 W) (fun W hW => B5.out.trans (hW.mono B5.out.size)) _ _ _ _ ?_
  have hS : Below w5.heap.size w5 w5 := Below.refl _ _
  refine' wpAnyH_take (i := 18) ?h1x18 ?hsx18 ?hfx18 ?hrx18 ?hQx18 (Or.inl ⟨?hwx18, ?hyx18⟩) hS ?restx18
  case h1x18 => (simp only [List.getElem?_toArray, List.getElem?_cons_succ, List.getElem?_cons_zero]; rfl)
  case hsx18 => kernel_rfl
  case hfx18 => kernel_rfl
  case hrx18 => kernel_rfl
  case hQx18 => exact fun _ _ _ h => h
  case hwx18 => rfl
  case hyx18 =>
    intro W hW
    go_simp
    try with_reducible rfl
  simp only [Act.put, List.setIfInBounds_toArray, List.set_cons_succ, List.set_cons_zero]
  refine' wpAnyH_take (i := 19) ?h1x19 ?hsx19 ?hfx19 ?hrx19 ?hQx19 (Or.inl ⟨?hwx19, ?hyx19⟩) hS ?restx19
  case h1x19 => (simp only [List.getElem?_toArray, List.getElem?_cons_succ, List.getElem?_cons_zero]; rfl)
  case hsx19 => kernel_rfl
  case hfx19 => kernel_rfl
  case hrx19 => kernel_rfl
  case hQx19 => exact fun _ _ _ h => h
  case hwx19 => rfl
  case hyx19 =>
    intro W hW
    go_simp
    try with_reducible rfl
  simp only [Act.put, List.setIfInBounds_toArray, List.set_cons_succ, List.set_cons_zero]
  refine' wpAnyH_take (i := 20) ?h1x20 ?hsx20 ?hfx20 ?hrx20 ?hQx20 (Or.inl ⟨?hwx20, ?hyx20⟩) hS ?restx20
  case h1x20 => (simp only [List.getElem?_toArray, List.getElem?_cons_succ, List.getElem?_cons_zero]; rfl)
  case hsx20 => kernel_rfl
  case hfx20 => kernel_rfl
  case hrx20 => kernel_rfl
  case hQx20 => exact fun _ _ _ h => h
  case hwx20 => rfl
  case hyx20 =>
    intro W hW
    go_simp
    try with_reducible rfl
  simp only [Act.put, List.setIfInBounds_toArray, List.set_cons_succ, List.set_cons_zero]
  refine' wpAnyH_take (i := 21) ?h1x21 ?hsx21 ?hfx21 ?hrx21 ?hQx21 (Or.inl ⟨?hwx21, ?hyx21⟩) hS ?restx21
  case h1x21 => (simp only [List.getElem?_toArray, List.getElem?_cons_succ, List.getElem?_cons_zero]; rfl)
  case hsx21 => kernel_rfl
  case hfx21 => kernel_rfl
  case hrx21 => kernel_rfl
  case hQx21 => exact fun _ _ _ h => h
  case hwx21 => rfl
  case hyx21 =>
    intro W hW
    go_simp
    try with_reducible rfl
  simp only [Act.put, List.setIfInBounds_toArray, List.set_cons_succ, List.set_cons_zero]
  refine' wpAnyH_take (i := 22) ?h1x22 ?hsx22 ?hfx22 ?hrx22 ?hQx22 (Or.inl ⟨?hwx22, ?hyx22⟩) hS ?restx22
  case h1x22 => (simp only [List.getElem?_toArray, List.getElem?_cons_succ, List.getElem?_cons_zero]; rfl)
  case hsx22 => kernel_rfl
  case hfx22 => kernel_rfl
  case hrx22 => kernel_rfl
  case hQx22 => exact fun _ _ _ h => h
  case hwx22 => rfl
  case hyx22 =>
    intro W hW
    go_simp
    try with_reducible rfl
  simp only [Act.put, List.setIfInBounds_toArray, List.set_cons_succ, List.set_cons_zero]
  refine' wpAnyH_take (i := 25) ?h1x25 ?hsx25 ?hfx25 ?hrx25 ?hQx25 (Or.inl ⟨?hwx25, ?hyx25⟩) hS ?restx25
  case h1x25 => (simp only [List.getElem?_toArray, List.getElem?_cons_succ, List.getElem?_cons_zero]; rfl)
  case hsx25 => kernel_rfl
  case hfx25 => kernel_rfl
  case hrx25 => kernel_rfl
  case hQx25 => exact fun _ _ _ h => h
  case hwx25 => rfl
  case hyx25 =>
    intro W hW
    go_simp
    try with_reducible rfl
  simp only [Act.put, List.setIfInBounds_toArray, List.set_cons_succ, List.set_cons_zero]
  refine' wpAnyH_take (i := 26) ?h1x26 ?hsx26 ?hfx26 ?hrx26 ?hQx26 (Or.inl ⟨?hwx26, ?hyx26⟩) hS ?restx26
  case h1x26 => (simp only [List.getElem?_toArray, List.getElem?_cons_succ, List.getElem?_cons_zero]; rfl)
  case hsx26 => kernel_rfl
  case hfx26 => kernel_rfl
  case hrx26 => kernel_rfl
  case hQx26 => exact fun _ _ _ h => h
  case hwx26 => rfl
  case hyx26 =>
    intro W hW
    go_simp
    try with_reducible rfl
  simp only [Act.put, List.setIfInBounds_toArray, List.set_cons_succ, List.set_cons_zero]
  refine wpAnyH_ready (rs := [23]) (by kernel_rfl) (by simp) ?_
  refine' AllReadyH.cons ?hoc23 (fun K hK => ?stc23) AllReadyH.nil
  case hoc23 => (simp only [List.getElem?_toArray, List.getElem?_cons_succ, List.getElem?_cons_zero]; rfl)
  go_simp
  refine (putb32 c c0 c1 _).mono ?_
  rintro e w6 ⟨q6, rfl, hs, hb, _⟩
  go_wp2_with fail
  refine hK.out _ _ (hS.trans (hb.mono hS.size)) (fun hHeld => ?_)
  clear hK K hHeld
  try simp only [Act.put, List.setIfInBounds_toArray, List.set_cons_zero, List.set_cons_succ]
  have B6 : Hid (Below w5.heap.size w5 w6) := hS.trans (hb.mono hS.size)
  have cv6 : ∀ W, Below w6.heap.size w6 W → (convert 25 9 (.slice (some ⟨q6, 0, none⟩) 4 4)).run Try.prog W = .ok (.string (strOfNums (be 4 c))) W := fun W hW => (hs.below hW).str
  clear hb hs hS
  refine more (S' := fun W => Below w6.heap.size w6 W) (fun W hW => B6.out.trans (hW.mono B6.out.size)) _ _ _ _ ?_
  have hS : Below w6.heap.size w6 w6 := Below.refl _ _
  refine' wpAnyH_take (i := 24) ?h1x24 ?hsx24 ?hfx24 ?hrx24 ?hQx24 (Or.inl ⟨?hwx24, ?hyx24⟩) hS ?restx24
  case h1x24 => (simp only [List.getElem?_toArray, List.getElem?_cons_succ, List.getElem?_cons_zero]; rfl)
  case hsx24 => kernel_rfl
  case hfx24 => kernel_rfl
  case hrx24 => kernel_rfl
  case hQx24 => exact fun _ _ _ h => h
  case hwx24 => rfl
  case hyx24 =>
    intro W hW
    go_simp
    try with_reducible rfl
  simp only [Act.put, List.setIfInBounds_toArray, List.set_cons_succ, List.set_cons_zero]
  refine wpAnyH_ready (rs := [27]) (by kernel_rfl) (by simp) ?_
  refine' AllReadyH.cons ?hoc27 (fun K hK => ?stc27) AllReadyH.nil
  case hoc27 => (simp only [List.getElem?_toArray, List.getElem?_cons_succ, List.getElem?_cons_zero]; rfl)
  go_simp
  rw [WWc.out]
  refine (refBytes4 c c0 (by omega) _).mono ?_
  rintro e w7 ⟨y7, z7, rfl, ho, hb⟩
  go_wp2_with fail
  refine hK.out _ _ (hS.trans (hb.mono hS.size)) (fun hHeld => ?_)
  clear hK K hHeld
  try simp only [Act.put, List.setIfInBounds_toArray, List.set_cons_zero, List.set_cons_succ]
  have B7 : Hid (Below w6.heap.size w6 w7) := hS.trans (hb.mono hS.size)
  have cv7 : ∀ W, Below w7.heap.size w7 W → (convert 25 9 (.slice y7 (be 4 c).length z7)).run Try.prog W = .ok (.string (strOfNums (be 4 c))) W := fun W hW => (ho.sees.below hW).str
  clear hb ho hS
  refine more (S' := fun W => Below w7.heap.size w7 W) (fun W hW => B7.out.trans (hW.mono B7.out.size)) _ _ _ _ ?_
  have hS : Below w7.heap.size w7 w7 := Below.refl _ _
  refine' wpAnyH_take (i := 28) ?h1x28 ?hsx28 ?hfx28 ?hrx28 ?hQx28 (Or.inl ⟨?hwx28, ?hyx28⟩) hS ?restx28
  case h1x28 => (simp only [List.getElem?_toArray, List.getElem?_cons_succ, List.getElem?_cons_zero]; rfl)
  case hsx28 => kernel_rfl
  case hfx28 => kernel_rfl
  case hrx28 => kernel_rfl
  case hQx28 => exact fun _ _ _ h => h
  case hwx28 => rfl
  case hyx28 =>
    intro W hW
    go_simp
    try with_reducible rfl
  simp only [Act.put, List.setIfInBounds_toArray, List.set_cons_succ, List.set_cons_zero]
  refine' wpAnyH_take (i := 29) ?h1x29 ?hsx29 ?hfx29 ?hrx29 ?hQx29 (Or.inl ⟨?hwx29, ?hyx29⟩) hS ?restx29
  case h1x29 => (simp only [List.getElem?_toArray, List.getElem?_cons_succ, List.getElem?_cons_zero]; rfl)
  case hsx29 => kernel_rfl
  case hfx29 => kernel_rfl
  case hrx29 => kernel_rfl
  case hQx29 => exact fun _ _ _ h => h
  case hwx29 => rfl
  case hyx29 =>
    intro W hW
    go_simp
    try with_reducible rfl
  simp only [Act.put, List.setIfInBounds_toArray, List.set_cons_succ, List.set_cons_zero]
  refine' wpAnyH_take (i := 30) ?h1x30 ?hsx30 ?hfx30 ?hrx30 ?hQx30 (Or.inl ⟨?hwx30, ?hyx30⟩) hS ?restx30
  case h1x30 => (simp only [List.getElem?_toArray, List.getElem?_cons_succ, List.getElem?_cons_zero]; rfl)
  case hsx30 => kernel_rfl
  case hfx30 => kernel_rfl
  case hrx30 => kernel_rfl
  case hQx30 => exact fun _ _ _ h => h
  case hwx30 => rfl
  case hyx30 =>
    intro W hW
    go_simp
    try with_reducible rfl
  simp only [Act.put, List.setIfInBounds_toArray, List.set_cons_succ, List.set_cons_zero]
  refine' wpAnyH_take (i := 31) ?h1x31 ?hsx31 ?hfx31 ?hrx31 ?hQx31 (Or.inl ⟨?hwx31, ?hyx31⟩) hS ?restx31
  case h1x31 => (simp only [List.getElem?_toArray, List.getElem?_cons_succ, List.getElem?_cons_zero]; rfl)
  case hsx31 => kernel_rfl
  case hfx31 => kernel_rfl
  case hrx31 => kernel_rfl
  case hQx31 => exact fun _ _ _ h => h
  case hwx31 => rfl
  case hyx31 =>
    intro W hW
    go_simp
    try with_reducible rfl
  simp only [Act.put, List.setIfInBounds_toArray, List.set_cons_succ, List.set_cons_zero]
  refine' wpAnyH_take (i := 32) ?h1x32 ?hsx32 ?hfx32 ?hrx32 ?hQx32 (Or.inl ⟨?hwx32, ?hyx32⟩) hS ?restx32
  case h1x32 => (simp only [List.getElem?_toArray, List.getElem?_cons_succ, List.getElem?_cons_zero]; rfl)
  case hsx32 => kernel_rfl
  case hfx32 => kernel_rfl
  case hrx32 => kernel_rfl
  case hQx32 => exact fun _ _ _ h => h
  case hwx32 => rfl
  case hyx32 =>
    intro W hW
    go_simp
    try with_reducible rfl
  simp only [Act.put, List.setIfInBounds_toArray, List.set_cons_succ, List.set_cons_zero]
  refine' wpAnyH_take (i := 35) ?h1x35 ?hsx35 ?hfx35 ?hrx35 ?hQx35 (Or.inl ⟨?hwx35, ?hyx35⟩) hS ?restx35
  case h1x35 => (simp only [List.getElem?_toArray, List.getElem?_cons_succ, List.getElem?_cons_zero]; rfl)
  case hsx35 => kernel_rfl
  case hfx35 => kernel_rfl
  case hrx35 => kernel_rfl
  case hQx35 => exact fun _ _ _ h => h
  case hwx35 => rfl
  case hyx35 =>
    intro W hW
    go_simp
    try with_reducible rfl
  simp only [Act.put, List.setIfInBounds_toArray, List.set_cons_succ, List.set_cons_zero]
  refine wpAnyH_ready (rs := [33]) (by kernel_rfl) (by simp) ?_
  refine' AllReadyH.cons ?hoc33 (fun K hK => ?stc33) AllReadyH.nil
  case hoc33 => (simp only [List.getElem?_toArray, List.getElem?_cons_succ, List.getElem?_cons_zero]; rfl)
  go_simp
  refine (putb64 d d0 d1 _).mono ?_
  rintro e w8 ⟨q8, rfl, hs, hb, _⟩
  go_wp2_with fail
  refine hK.out _ _ (hS.trans (hb.mono hS.size)) (fun hHeld => ?_)
  clear hK K hHeld
  try simp only [Act.put, List.setIfInBounds_toArray, List.set_cons_zero, List.set_cons_succ]
  have B8 : Hid (Below w7.heap.size w7 w8) := hS.trans (hb.mono hS.size)
  have cv8 : ∀ W, Below w8.heap.size w8 W → (convert 25 9 (.slice (some ⟨q8, 0, none⟩) 8 8)).run Try.prog W = .ok (.string (strOfNums (be 8 d))) W := fun W hW => (hs.below hW).str
  clear hb hs hS
  refine more (S' := fun W => Below w8.heap.size w8 W) (fun W hW => B8.out.trans (hW.mono B8.out.size)) _ _ _ _ ?_
  have hS : Below w8.heap.size w8 w8 := Below.refl _ _
  refine' wpAnyH_take (i := 34) ?h1x34 ?hsx34 ?hfx34 ?hrx34 ?hQx34 (Or.inl ⟨?hwx34, ?hyx34⟩) hS ?restx34
  case h1x34 => (simp only [List.getElem?_toArray, List.getElem?_cons_succ, List.getElem?_cons_zero]; rfl)
  case hsx34 => kernel_rfl
  case hfx34 => kernel_rfl
  case hrx34 => kernel_rfl
  case hQx34 => exact fun _ _ _ h => h
  case hwx34 => rfl
  case hyx34 =>
    intro W hW
    go_simp
    try with_reducible rfl
  simp only [Act.put, List.setIfInBounds_toArray, List.set_cons_succ, List.set_cons_zero]
  refine wpAnyH_ready (rs := [36]) (by kernel_rfl) (by simp) ?_
  refine' AllReadyH.cons ?hoc36 (fun K hK => ?stc36) AllReadyH.nil
  case hoc36 => (simp only [List.getElem?_toArray, List.getElem?_cons_succ, List.getElem?_cons_zero]; rfl)
  go_simp
  refine (refBytes8 d d0 (by omega) _).mono ?_
  rintro e w9 ⟨y9, z9, rfl, ho, hb⟩
  go_wp2_with fail
  refine hK.out _ _ (hS.trans (hb.mono hS.size)) (fun hHeld => ?_)
  clear hK K hHeld
  try simp only [Act.put, List.setIfInBounds_toArray, List.set_cons_zero, List.set_cons_succ]
  have B9 : Hid (Below w8.heap.size w8 w9) := hS.trans (hb.mono hS.size)
  have cv9 : ∀ W, Below w9.heap.size w9 W → (convert 25 9 (.slice y9 (be 8 d).length z9)).run Try.prog W = .ok (.string (strOfNums (be 8 d))) W := fun W hW => (ho.sees.below hW).str
  clear hb ho hS
  refine more (S' := fun W => Below w9.heap.size w9 W) (fun W hW => B9.out.trans (hW.mono B9.out.size)) _ _ _ _ ?_
  have hS : Below w9.heap.size w9 w9 := Below.refl _ _
  refine' wpAnyH_take (i := 37) ?h1x37 ?hsx37 ?hfx37 ?hrx37 ?hQx37 (Or.inl ⟨?hwx37, ?hyx37⟩) hS ?restx37
  case h1x37 => (simp only [List.getElem?_toArray, List.getElem?_cons_succ, List.getElem?_cons_zero]; rfl)
  case hsx37 => kernel_rfl
  case hfx37 => kernel_rfl
  case hrx37 => kernel_rfl
  case hQx37 => exact fun _ _ _ h => h
  case hwx37 => rfl
  case hyx37 =>
    intro W hW
    go_simp
    try with_reducible rfl
  simp only [Act.put, List.setIfInBounds_toArray, List.set_cons_succ, List.set_cons_zero]
  refine' wpAnyH_take (i := 38) ?h1x38 ?hsx38 ?hfx38 ?hrx38 ?hQx38 (Or.inl ⟨?hwx38, ?hyx38⟩) hS ?restx38
  case h1x38 => (simp only [List.getElem?_toArray, List.getElem?_cons_succ, List.getElem?_cons_zero]; rfl)
  case hsx38 => kernel_rfl
  case hfx38 => kernel_rfl
  case hrx38 => kernel_rfl
  case hQx38 => exact fun _ _ _ h => h
  case hwx38 => rfl
  case hyx38 =>
    intro W hW
    go_simp
    try with_reducible rfl
  simp only [Act.put, List.setIfInBounds_toArray, List.set_cons_succ, List.set_cons_zero]
  refine' wpAnyH_take (i := 39) ?h1x39 ?hsx39 ?hfx39 ?hrx39 ?hQx39 (Or.inl ⟨?hwx39, ?hyx39⟩) hS ?restx39
  case h1x39 => (simp only [List.getElem?_toArray, List.getElem?_cons_succ, List.getElem?_cons_zero]; rfl)
  case hsx39 => kernel_rfl
  case hfx39 => kernel_rfl
  case hrx39 => kernel_rfl
  case hQx39 => exact fun _ _ _ h => h
  case hwx39 => rfl
  case hyx39 =>
    intro W hW
    go_simp
    try with_reducible rfl
  simp only [Act.put, List.setIfInBounds_toArray, List.set_cons_succ, List.set_cons_zero]
  refine' wpAnyH_take (i := 40) ?h1x40 ?hsx40 ?hfx40 ?hrx40 ?hQx40 (Or.inl ⟨?hwx40, ?hyx40⟩) hS ?restx40
  case h1x40 => (simp only [List.getElem?_toArray, List.getElem?_cons_succ, List.getElem?_cons_zero]; rfl)
  case hsx40 => kernel_rfl
  case hfx40 => kernel_rfl
  case hrx40 => kernel_rfl
  case hQx40 => exact fun _ _ _ h => h
  case hwx40 => rfl
  case hyx40 =>
    intro W hW
    go_simp
    try with_reducible rfl
  simp only [Act.put, List.setIfInBounds_toArray, List.set_cons_succ, List.set_cons_zero]
  refine wpAnyH_done (by kernel_rfl) ?_ _
  refine NoPanic.normal ?_
  go_wp2_with fail
  go_ret
  have b1 := B1.out
  have b2 := b1.trans (B2.out.mono b1.size)
  have b3 := b2.trans (B3.out.mono b2.size)
  have b4 := b3.trans (B4.out.mono b3.size)
  have b5 := b4.trans (B5.out.mono b4.size)
  have b6 := b5.trans (B6.out.mono b5.size)
  have b7 := b6.trans (B7.out.mono b6.size)
  have b8 := b7.trans (B8.out.mono b7.size)
  have b9 := b8.trans (B9.out.mono b8.size)
  exact ⟨rfl, b9⟩
theorem walk (a b c d p : Int) (ha : 0 ≤ a ∧ a ≤ 255) (hb : 0 ≤ b ∧ b ≤ 65535) (hc : 0 ≤ c ∧ c ≤ 4294967295) (hd : 0 ≤ d ∧ d ≤ 18446744073709551615) (hp : -9223372036854775808 ≤ p ∧ p ≤ 9223372036854775807) (v : Value) (xs : List Int) (w : World) (h : Sees w v xs) :
    Calls Try.prog 3 #[.int .u8 a, .int .u16 b, .int .u32 c, .int .u64 d, v, .int .i64 p] w fun e w' => e = .returned (.bool true) ∧ Below w.heap.size w w' := by
  by_cases hl : xs.length ≤ 2000
  · exact walk_small a b c d p ha hb hc hd hp v xs hl w h
  · obtain ⟨x, cap, rfl, h63⟩ := h.form
    exact walk_great a b c d p x _ cap (by omega) h63 w

set_option maxRecDepth 100000 in
theorem lifted (os : Os) (started : os.Started) (H : Type) (enc : TypeId × Value → H) :
    ReturnsInHanded {} Try.checked os 3 .any (Rows.octetPutsSpec.pre6 enc Try.prog Try.f3 Rows.octetPutsRow.domain false) (Rows.octetPutsSpec.post enc Try.prog Try.f3 false true false false) := by
  refine returnsInHanded_of_change (C := Try.checked) own started (by kernel_rfl) Try.func3
    (ChangeSpec.witness6 (enc := enc) (C := Try.checked) false ⟨#[], #[.int .u8 0, .int .u16 0, .int .u32 0, .int .u64 0, .slice none 0 0, .int .i64 0], []⟩ 8 (by kernel_rfl) (by kernel_rfl) (by kernel_rfl) (by kernel_rfl)) ?_
  intro W base args ds gs before hval0 hW hcnd _
  have hval : ∀ (j : Nat) t v, Try.f3.params[j]? = some t → args[j]? = some v → Value.okWide Try.prog W .any base t v := hval0
  have hW' := hW
  obtain ⟨p, q, hA0, hV, rfl, hfz, hnd⟩ := hW
  have hA : DataW.TrodAll enc Try.prog W 0 (fun _ => true) true Try.f3.params.toList args.toList ds p := hA0
  rw [Try.params3] at hA hval
  obtain ⟨v0, vs0, d0, ds0, p0, q0, hargs, rfl, rfl, h0, r0⟩ := trodAll_cons hA
  obtain ⟨v1, vs1, d1, ds1, p1, q1, rfl, rfl, rfl, h1, r1⟩ := trodAll_cons r0
  obtain ⟨v2, vs2, d2, ds2, p2, q2, rfl, rfl, rfl, h2, r2⟩ := trodAll_cons r1
  obtain ⟨v3, vs3, d3, ds3, p3, q3, rfl, rfl, rfl, h3, r3⟩ := trodAll_cons r2
  obtain ⟨v4, vs4, d4, ds4, p4, q4, rfl, rfl, rfl, h4, r4⟩ := trodAll_cons r3
  obtain ⟨v5, vs5, d5, ds5, p5, q5, rfl, rfl, rfl, h5, r5⟩ := trodAll_cons r4
  obtain ⟨rfl, rfl, rfl⟩ := trodAll_nil r5
  obtain rfl : args = #[v0, v1, v2, v3, v4, v5] := by cases args; simp_all
  obtain ⟨rfl, rfl⟩ := trodVars_none hV
  obtain ⟨a0, rfl, rfl, rfl, w0⟩ := open_int Try.underlying5 (hval 0 5 v0 rfl rfl) h0
  have b0 := bounds_u8 w0
  obtain ⟨a1, rfl, rfl, rfl, w1⟩ := open_int Try.underlying22 (hval 1 22 v1 rfl rfl) h1
  have b1 := bounds_u16 w1
  obtain ⟨a2, rfl, rfl, rfl, w2⟩ := open_int Try.underlying23 (hval 2 23 v2 rfl rfl) h2
  have b2 := bounds_u32 w2
  obtain ⟨a3, rfl, rfl, rfl, w3⟩ := open_int Try.underlying24 (hval 3 24 v3 rfl rfl) h3
  have b3 := bounds_u64 w3
  obtain ⟨x4, s4⟩ := open_sees (hval 4 25 v4 rfl rfl) h4
  obtain ⟨a5, rfl, rfl, rfl, w5⟩ := open_int Try.underlying3 (hval 5 3 v5 rfl rfl) h5
  have b5 := bounds_i64 w5
  refine (walk a0 a1 a2 a3 a5 b0 b1 b2 b3 b5 v4 x4 W s4).mono fun e W' ⟨he, hb⟩ => ?_
  subst he
  exact ⟨_, rfl, law_post hW' rfl rfl rfl (by kernel_rfl) hb⟩

/-- The statement. -/
theorem proved : Rows.OctetPutsSaid :=
  OpenClaim.holds_of_wide 3 Try.f3 rfl rfl rfl rfl rfl rfl rfl ⟨rfl, rfl, rfl, rfl, rfl⟩ rfl rfl rfl rfl rfl (by kernel_rfl) Try.func3 (by kernel_rfl)
    (of_decide_eq_true (by kernel_rfl)) (by unfold Func.isWrapper; first | (rw [if_pos (by decide +kernel)]; kernel_rfl) | (rw [if_neg (by decide +kernel)]; exact ⟨rfl, rfl⟩))
    (fun os started H enc _ => lifted os started H enc)
#print axioms proved
end Go.Proofs.Ytmjbfjkbfnpnlaa.octetPuts
