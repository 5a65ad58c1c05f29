/-
  For all pairs of slots and every slice of bytes the law SlotBack of package casematelaw20 returns true, and they read afterwards as before: slots go there and back, in one way alone; unlike slots have unlike bytes. Condition: none.
-/
import Derived.Test.YtplffbpnjnbolaaSlG
namespace Go.Proofs.Ytplffbpnjnbolaa.slotBack
open Go.ChangeShapes Go.WideShapes Go.ChangeAt Go.RowKit
theorem sW_inj {xs ys : List Int} (hx : xs.length = 104) (hy : ys.length = 104) : sW xs = sW ys ↔ xs = ys := by
  refine ⟨fun h => ?_, fun h => by rw [h]⟩
  have := congrArg sR h
  rwa [sR_sW xs hx, sR_sW ys hy] at this
theorem walk_great (X Y : Array Value) (x : Option Addr) (l cap : Nat) (hl : l ≤ 9223372036854775807) (hg : 1000 < l) (w : World) : Calls Try.prog 9 #[.agg X, .agg Y, .slice x l cap] w fun e w' => e = .returned (.bool true) ∧ Below w.heap.size w w' := by
  have hg' : (1000 : Int) < l := by omega
  go_enter Try.func9, Try.ntmps9
  go_wp2_with fail
  refine (alive20 _).mono ?_
  rintro e w' ⟨rfl, hb⟩
  have HB : Hid (Below w.heap.size w w') := (((Below.refl _ _).alloc (Nat.le_refl _) _).alloc (by simp) _).trans (hb.mono (by simp; omega))
  go_wp2_with fail
  go_ret
  exact ⟨rfl, HB.out⟩
set_option maxRecDepth 100000 in
set_option maxHeartbeats 8000000 in
theorem walk_small (xs ts : List Int) (hx : Byt xs) (ht : Byt ts) (lx : xs.length = 104) (lt : ts.length = 104) (v : Value) (bs : List Int) (hl : bs.length ≤ 1000) (w : World) (h : Sees w v bs) :
    Calls Try.prog 9 #[.agg (bcells xs), .agg (bcells ts), v] w fun e w' => e = .returned (.bool true) ∧ Below w.heap.size w w' := by
  obtain ⟨x, cap, rfl, _⟩ := h.form
  have hl' : (bs.length : Int) ≤ 1000 := by omega
  have hz := z104
  have WX : Hid (∀ W, Calls Try.prog 26 #[.agg (bcells xs)] W (NewP W 512 (sW xs))) := fun W => slotW xs hx lx W
  have WT : Hid (∀ W, Calls Try.prog 26 #[.agg (bcells ts)] W (NewP W 512 (sW ts))) := fun W => slotW ts ht lt W
  have WB : Hid (∀ W, Calls Try.prog 26 #[.agg (bcells (sRv bs))] W (NewP W 512 (sW (sRv bs)))) := fun W => slotW _ (sRv_byt h.1) (sRv_len _) W
  have RX : Hid (∀ v W, Sees W v (sW xs) → Calls Try.prog 24 #[v] W fun e w' => e = .returned (.tuple #[.agg (bcells xs), .int .i64 0]) ∧ Below W.heap.size W w') := fun v W h => by
    have := slotR v _ W h; unfold ReadSP at this; rw [sRe_sW _ lx, sRv_sW _ lx] at this; exact this
  have RB : Hid (∀ v W, Sees W v bs → Calls Try.prog 24 #[v] W fun e w' => e = .returned (.tuple #[.agg (bcells (sRv bs)), .int .i64 (sRe bs)]) ∧ Below W.heap.size W w') := fun v W h => slotR v _ W h
  have IZ := Lib.hid (i61 (zs_len 104))
  have IX := Lib.hid (i61 lx)
  have IT := Lib.hid (i61 lt)
  have IB := Lib.hid (i61 (sRv_len bs))
  have OX := Lib.hid (one_cells xs)
  have OB := Lib.hid (one_cells (sRv bs))
  have ZX := Lib.hid (bcells_sz (show (zs 104).length = xs.length by rw [zs_len, lx]))
  have ZB := Lib.hid (bcells_sz (show (zs 104).length = (sRv bs).length by rw [zs_len, sRv_len]))
  have EX := Lib.hid (fun W => (eq61 xs xs hx hx lx lx W).trans (by rw [decide_eq_true rfl]))
  obtain ⟨q, hq⟩ : ∃ q : Bool, q = decide (xs = ts) := ⟨_, rfl⟩
  have ET : Hid (∀ W, (Op.equalIn 10000 61 (.agg (bcells xs)) (.agg (bcells ts))).run Try.prog W = .ok q W) := fun W => by rw [hq]; exact eq61 xs ts hx ht lx lt W
  have ES : Hid (((strOfNums (sW xs)).toList == (strOfNums (sW ts)).toList) = q) := by
    show _ = _
    rw [str_eq _ _ (sW_byt _ hx) (sW_byt _ ht), hq, decide_eq_decide]
    exact sW_inj lx lt
  have EB : Hid (sRe bs = 0 → ((strOfNums (sW (sRv bs))).toList == (strOfNums bs).toList) = true) := fun e => by
    have e2 : bs.length = 512 ∧ sW (sR bs) = bs := by
      unfold sRe at e
      by_cases c : bs.length = 512 ∧ sW (sR bs) = bs
      · exact c
      · rw [if_neg c] at e; exact absurd e (by decide)
    have e3 : sRv bs = sR bs := by unfold sRv; rw [if_pos e]
    rw [e3, e2.2]
    exact beq_self_eq_true _
  have E01 : Hid (sRe bs = 0 ∨ sRe bs = 3) := by
    show _ ∨ _
    unfold sRe
    by_cases c : bs.length = 512 ∧ sW (sR bs) = bs
    · rw [if_pos c]; exact .inl rfl
    · rw [if_neg c]; exact .inr rfl
  have SB := Lib.hid h
  generalize sW xs = XS at *
  generalize sW ts = TS at *
  generalize sW (sRv bs) = BS at *
  generalize bcells xs = CX at *
  generalize bcells ts = CT at *
  generalize bcells (sRv bs) = CB at *
  generalize bcells (zs 104) = Z at *
  generalize sRe bs = E at *
  obtain ⟨W0, hW0⟩ : ∃ W0, W0 = (w.alloc (.cells CX 61)).alloc (.cells CT 61) := ⟨_, rfl⟩
  have HB : Hid (Below w.heap.size w W0) := by rw [hW0]; exact ((Below.refl _ _).alloc (Nat.le_refl _) _).alloc (by simp) _
  have G0 : Hid (W0.heap[w.heap.size]? = some (.cells CX 61 (0, 0))) := by show _ = _; rw [hW0, Below.heap_alloc _ _ _ (by simp)]; exact heap_alloc_new w _
  have G1 : Hid (W0.heap[w.heap.size + 1]? = some (.cells CT 61 (0, 0))) := by show _ = _; rw [hW0]; exact heap_alloc2_new w _ _
  have HW0 := Lib.hid hW0
  clear hW0 hx ht lx lt h hl hq
  go_enter Try.func9, Try.ntmps9
  go_wp2_with (refine wpList_load_row rfl 61 (.tmp 3) rfl w.heap.size rfl 61 CX (0, 0) _ (by rw [← HW0.out]; exact G0.out) Try.underlying61 rfl IX.out ?_)
  rw [← HW0.out]
  refine (WX.out _).mono ?_
  rintro e w1 ⟨g1, rfl, hs, hb, _⟩
  have S1 := Lib.hid hs
  have B1 := Lib.hid (HB.out.trans (hb.mono HB.out.size))
  have G01 := Lib.hid ((hb.block _ (blk_lt G0.out)).trans G0.out)
  have G11 := Lib.hid ((hb.block _ (blk_lt G1.out)).trans G1.out)
  clear hs hb G0 G1 HB HW0
  go_wp2_with fail
  refine (RX.out _ _ S1.out).mono ?_
  rintro e w2 ⟨rfl, hb⟩
  have hal : Below w2.heap.size w2 (w2.alloc (.cells CX 61)) := (Below.refl _ _).alloc (Nat.le_refl _) _
  have hb2 : Below w1.heap.size w1 (w2.alloc (.cells CX 61)) := hb.trans (hal.mono hb.size)
  have B3 := Lib.hid (B1.out.trans (hb2.mono B1.out.size))
  have G03 := Lib.hid ((hb2.block _ (blk_lt G01.out)).trans G01.out)
  have G13 := Lib.hid ((hb2.block _ (blk_lt G11.out)).trans G11.out)
  have SB3 := Lib.hid (SB.out.below B3.out)
  have A2 := Lib.hid (heap_alloc_new w2 (.cells Z 61))
  have R2 := Lib.hid (alloc_setRowT w2 Z CX 61 _ rfl)
  have G23 := Lib.hid (heap_alloc_new w2 (.cells CX 61))
  clear hb hal hb2 S1 B1 G01 G11 SB
  go_wp2_with (refine wpList_store_row rfl 61 (.tmp 7) (.tmp 19) rfl w2.heap.size CX rfl rfl 61 Z A2.out IX.out ZX.out OX.out ?_; rw [R2.out])
  generalize w2.alloc (.cells CX 61) = w3 at *
  generalize w2.heap.size = g2 at *
  refine (RB.out _ _ SB3.out).mono ?_
  rintro e w4 ⟨rfl, hb⟩
  have hal : Below w4.heap.size w4 (w4.alloc (.cells CB 61)) := (Below.refl _ _).alloc (Nat.le_refl _) _
  have hb2 : Below w3.heap.size w3 (w4.alloc (.cells CB 61)) := hb.trans (hal.mono hb.size)
  have GB := Lib.hid (B3.out.trans (hb2.mono B3.out.size))
  have GX := Lib.hid ((hb2.block _ (blk_lt G03.out)).trans G03.out)
  have GT := Lib.hid ((hb2.block _ (blk_lt G13.out)).trans G13.out)
  have GY := Lib.hid ((hb2.block _ (blk_lt G23.out)).trans G23.out)
  have SB := Lib.hid (SB3.out.below hb2)
  have A4 := Lib.hid (heap_alloc_new w4 (.cells Z 61))
  have R4 := Lib.hid (alloc_setRowT w4 Z CB 61 _ rfl)
  have GC := Lib.hid (heap_alloc_new w4 (.cells CB 61))
  clear hb hal hb2 B3 G03 G13 G23 SB3 A2 R2
  go_wp2_with (refine wpList_store_row rfl 61 (.tmp 9) (.tmp 24) rfl w4.heap.size CB rfl rfl 61 Z A4.out IB.out ZB.out OB.out ?_; rw [R4.out])
  generalize w4.alloc (.cells CB 61) = w5 at *
  generalize w4.heap.size = g4 at *
  clear A4 R4 IZ ZX ZB OX OB RX RB hz
  rcases E01.out with rfl | rfl
  · refine wp_region_held_drew (S := fun W => Below w5.heap.size w5 W) (by kernel_rfl) (Below.refl _ _).drew (fun hS => ?_)
    refine wpAnyH_ready (rs := [0]) (by kernel_rfl) (by simp) ?_
    refine' AllReadyH.cons ?hoc0a (fun K hK => ?stc0a) AllReadyH.nil
    case hoc0a => (simp only [List.getElem?_toArray, List.getElem?_cons_zero]; rfl)
    go_simp
    refine (alive20 _).mono ?_
    rintro e wka1 ⟨rfl, hb⟩
    go_wp2_with fail
    refine hK.out _ _ (hS.trans (hb.mono hS.size)) (fun hHeld => ?_)
    clear hK K
    try simp only [Act.put, List.setIfInBounds_toArray, List.set_cons_succ, List.set_cons_zero]
    have GB := Lib.hid (GB.out.trans (hHeld.mono GB.out.size))
    have GX := Lib.hid ((hHeld.block _ (blk_lt GX.out)).trans GX.out)
    have GT := Lib.hid ((hHeld.block _ (blk_lt GT.out)).trans GT.out)
    have GY := Lib.hid ((hHeld.block _ (blk_lt GY.out)).trans GY.out)
    have GC := Lib.hid ((hHeld.block _ (blk_lt GC.out)).trans GC.out)
    have SB := Lib.hid (SB.out.below hHeld)
    refine wpAnyH_mono (S' := fun W => Below wka1.heap.size wka1 W) (fun _ h => hHeld.trans (h.mono hHeld.size)) _ _ _ _ ?_
    clear hS hb hHeld
    have hS : Below wka1.heap.size wka1 wka1 := Below.refl _ _
    refine' wpAnyH_take (i := 1) ?h1x1a ?hsx1a ?hfx1a ?hrx1a ?hQx1a (Or.inl ⟨?hwx1a, ?hyx1a⟩) hS ?restx1a
    case h1x1a => (simp only [List.getElem?_toArray, List.getElem?_cons_succ, List.getElem?_cons_zero]; rfl)
    case hsx1a => kernel_rfl
    case hfx1a => kernel_rfl
    case hrx1a => kernel_rfl
    case hQx1a => exact fun _ _ _ h => h
    case hwx1a => rfl
    case hyx1a =>
      intro W hW
      go_simp
      try with_reducible rfl
    simp only [Act.put, List.setIfInBounds_toArray, List.set_cons_succ, List.set_cons_zero]
    refine' wpAnyH_take (i := 2) ?h1x2a ?hsx2a ?hfx2a ?hrx2a ?hQx2a (Or.inl ⟨?hwx2a, ?hyx2a⟩) hS ?restx2a
    case h1x2a => (simp only [List.getElem?_toArray, List.getElem?_cons_succ, List.getElem?_cons_zero]; rfl)
    case hsx2a => kernel_rfl
    case hfx2a => kernel_rfl
    case hrx2a => kernel_rfl
    case hQx2a => exact fun _ _ _ h => h
    case hwx2a => rfl
    case hyx2a =>
      intro W hW
      go_simp
      try with_reducible rfl
    simp only [Act.put, List.setIfInBounds_toArray, List.set_cons_succ, List.set_cons_zero]
    refine' wpAnyH_take (i := 3) ?h1x3a ?hsx3a ?hfx3a ?hrx3a ?hQx3a (Or.inl ⟨?hwx3a, ?hyx3a⟩) hS ?restx3a
    case h1x3a => (simp only [List.getElem?_toArray, List.getElem?_cons_succ, List.getElem?_cons_zero]; rfl)
    case hsx3a => kernel_rfl
    case hfx3a => kernel_rfl
    case hrx3a => kernel_rfl
    case hQx3a => exact fun _ _ _ h => h
    case hwx3a => rfl
    case hyx3a =>
      intro W hW
      go_simp
      try with_reducible rfl
    simp only [Act.put, List.setIfInBounds_toArray, List.set_cons_succ, List.set_cons_zero]
    refine' wpAnyH_take (i := 4) ?h1x4a ?hsx4a ?hfx4a ?hrx4a ?hQx4a (Or.inl ⟨?hwx4a, ?hyx4a⟩) hS ?restx4a
    case h1x4a => (simp only [List.getElem?_toArray, List.getElem?_cons_succ, List.getElem?_cons_zero]; rfl)
    case hsx4a => kernel_rfl
    case hfx4a => kernel_rfl
    case hrx4a => kernel_rfl
    case hQx4a => exact fun _ _ _ h => h
    case hwx4a => rfl
    case hyx4a =>
      intro W hW
      go_simp
      try with_reducible rfl
    simp only [Act.put, List.setIfInBounds_toArray, List.set_cons_succ, List.set_cons_zero]
    refine' wpAnyH_take (i := 5) ?h1x5a ?hsx5a ?hfx5a ?hrx5a ?hQx5a (Or.inl ⟨?hwx5a, ?hyx5a⟩) hS ?restx5a
    case h1x5a => (simp only [List.getElem?_toArray, List.getElem?_cons_succ, List.getElem?_cons_zero]; rfl)
    case hsx5a => kernel_rfl
    case hfx5a => kernel_rfl
    case hrx5a => kernel_rfl
    case hQx5a => exact fun _ _ _ h => h
    case hwx5a => rfl
    case hyx5a =>
      intro W hW
      go_simp
      try with_reducible rfl
    simp only [Act.put, List.setIfInBounds_toArray, List.set_cons_succ, List.set_cons_zero]
    refine' wpAnyH_take (i := 6) ?h1x6a ?hsx6a ?hfx6a ?hrx6a ?hQx6a (yieldsIf_load_at ?hwx6a 61 (.tmp 7) ?hopx6a g2 0 rfl CX _ (fun W hW => range_row ((hW.block _ (blk_lt GY.out)).trans GY.out)) Try.underlying61 rfl ?hix6a) hS ?restx6a
    case h1x6a => (simp only [List.getElem?_toArray, List.getElem?_cons_succ, List.getElem?_cons_zero]; rfl)
    case hopx6a => rfl
    case hsx6a => kernel_rfl
    case hfx6a => kernel_rfl
    case hrx6a => kernel_rfl
    case hQx6a => exact fun _ _ _ h => h
    case hwx6a => rfl
    case hix6a => exact IX.out
    simp only [Act.put, List.setIfInBounds_toArray, List.set_cons_succ, List.set_cons_zero]
    refine' wpAnyH_take (i := 7) ?h1x7a ?hsx7a ?hfx7a ?hrx7a ?hQx7a (yieldsIf_load_at ?hwx7a 61 (.tmp 3) ?hopx7a w.heap.size 0 rfl CX _ (fun W hW => range_row ((hW.block _ (blk_lt GX.out)).trans GX.out)) Try.underlying61 rfl ?hix7a) hS ?restx7a
    case h1x7a => (simp only [List.getElem?_toArray, List.getElem?_cons_succ, List.getElem?_cons_zero]; rfl)
    case hopx7a => rfl
    case hsx7a => kernel_rfl
    case hfx7a => kernel_rfl
    case hrx7a => kernel_rfl
    case hQx7a => exact fun _ _ _ h => h
    case hwx7a => rfl
    case hix7a => exact IX.out
    simp only [Act.put, List.setIfInBounds_toArray, List.set_cons_succ, List.set_cons_zero]
    refine' wpAnyH_take (i := 8) ?h1x8a ?hsx8a ?hfx8a ?hrx8a ?hQx8a (Or.inl ⟨?hwx8a, ?hyx8a⟩) hS ?restx8a
    case h1x8a => (simp only [List.getElem?_toArray, List.getElem?_cons_succ, List.getElem?_cons_zero]; rfl)
    case hsx8a => kernel_rfl
    case hfx8a => kernel_rfl
    case hrx8a => kernel_rfl
    case hQx8a => exact fun _ _ _ h => h
    case hwx8a => rfl
    case hyx8a =>
      intro W hW
      have dd := EX.out
      go_simp
      try with_reducible rfl
    simp only [Act.put, List.setIfInBounds_toArray, List.set_cons_succ, List.set_cons_zero]
    refine' wpAnyH_take (i := 9) ?h1x9a ?hsx9a ?hfx9a ?hrx9a ?hQx9a (Or.inl ⟨?hwx9a, ?hyx9a⟩) hS ?restx9a
    case h1x9a => (simp only [List.getElem?_toArray, List.getElem?_cons_succ, List.getElem?_cons_zero]; rfl)
    case hsx9a => kernel_rfl
    case hfx9a => kernel_rfl
    case hrx9a => kernel_rfl
    case hQx9a => exact fun _ _ _ h => h
    case hwx9a => rfl
    case hyx9a =>
      intro W hW
      go_simp
      try with_reducible rfl
    simp only [Act.put, List.setIfInBounds_toArray, List.set_cons_succ, List.set_cons_zero]
    refine' wpAnyH_take (i := 10) ?h1x10a ?hsx10a ?hfx10a ?hrx10a ?hQx10a (Or.inl ⟨?hwx10a, ?hyx10a⟩) hS ?restx10a
    case h1x10a => (simp only [List.getElem?_toArray, List.getElem?_cons_succ, List.getElem?_cons_zero]; rfl)
    case hsx10a => kernel_rfl
    case hfx10a => kernel_rfl
    case hrx10a => kernel_rfl
    case hQx10a => exact fun _ _ _ h => h
    case hwx10a => rfl
    case hyx10a =>
      intro W hW
      go_simp
      try with_reducible rfl
    simp only [Act.put, List.setIfInBounds_toArray, List.set_cons_succ, List.set_cons_zero]
    refine' wpAnyH_take (i := 11) ?h1x11a ?hsx11a ?hfx11a ?hrx11a ?hQx11a (Or.inl ⟨?hwx11a, ?hyx11a⟩) hS ?restx11a
    case h1x11a => (simp only [List.getElem?_toArray, List.getElem?_cons_succ, List.getElem?_cons_zero]; rfl)
    case hsx11a => kernel_rfl
    case hfx11a => kernel_rfl
    case hrx11a => kernel_rfl
    case hQx11a => exact fun _ _ _ h => h
    case hwx11a => rfl
    case hyx11a =>
      intro W hW
      go_simp
      try with_reducible rfl
    simp only [Act.put, List.setIfInBounds_toArray, List.set_cons_succ, List.set_cons_zero]
    refine' wpAnyH_take (i := 12) ?h1x12a ?hsx12a ?hfx12a ?hrx12a ?hQx12a (Or.inl ⟨?hwx12a, ?hyx12a⟩) hS ?restx12a
    case h1x12a => (simp only [List.getElem?_toArray, List.getElem?_cons_succ, List.getElem?_cons_zero]; rfl)
    case hsx12a => kernel_rfl
    case hfx12a => kernel_rfl
    case hrx12a => kernel_rfl
    case hQx12a => exact fun _ _ _ h => h
    case hwx12a => rfl
    case hyx12a =>
      intro W hW
      go_simp
      try with_reducible rfl
    simp only [Act.put, List.setIfInBounds_toArray, List.set_cons_succ, List.set_cons_zero]
    refine' wpAnyH_take (i := 13) ?h1x13a ?hsx13a ?hfx13a ?hrx13a ?hQx13a (Or.inl ⟨?hwx13a, ?hyx13a⟩) hS ?restx13a
    case h1x13a => (simp only [List.getElem?_toArray, List.getElem?_cons_succ, List.getElem?_cons_zero]; rfl)
    case hsx13a => kernel_rfl
    case hfx13a => kernel_rfl
    case hrx13a => kernel_rfl
    case hQx13a => exact fun _ _ _ h => h
    case hwx13a => rfl
    case hyx13a =>
      intro W hW
      go_simp
      try with_reducible rfl
    simp only [Act.put, List.setIfInBounds_toArray, List.set_cons_succ, List.set_cons_zero]
    refine' wpAnyH_take (i := 14) ?h1x14a ?hsx14a ?hfx14a ?hrx14a ?hQx14a (yieldsIf_load_at ?hwx14a 61 (.tmp 9) ?hopx14a g4 0 rfl CB _ (fun W hW => range_row ((hW.block _ (blk_lt GC.out)).trans GC.out)) Try.underlying61 rfl ?hix14a) hS ?restx14a
    case h1x14a => (simp only [List.getElem?_toArray, List.getElem?_cons_succ, List.getElem?_cons_zero]; rfl)
    case hopx14a => rfl
    case hsx14a => kernel_rfl
    case hfx14a => kernel_rfl
    case hrx14a => kernel_rfl
    case hQx14a => exact fun _ _ _ h => h
    case hwx14a => rfl
    case hix14a => exact IB.out
    simp only [Act.put, List.setIfInBounds_toArray, List.set_cons_succ, List.set_cons_zero]
    refine' wpAnyH_take (i := 17) ?h1x17a ?hsx17a ?hfx17a ?hrx17a ?hQx17a (Or.inl ⟨?hwx17a, ?hyx17a⟩) hS ?restx17a
    case h1x17a => (simp only [List.getElem?_toArray, List.getElem?_cons_succ, List.getElem?_cons_zero]; rfl)
    case hsx17a => kernel_rfl
    case hfx17a => kernel_rfl
    case hrx17a => kernel_rfl
    case hQx17a => exact fun _ _ _ h => h
    case hwx17a => rfl
    case hyx17a =>
      intro W hW
      go_simp
      try with_reducible rfl
    simp only [Act.put, List.setIfInBounds_toArray, List.set_cons_succ, List.set_cons_zero]
    refine' wpAnyH_take (i := 18) ?h1x18a ?hsx18a ?hfx18a ?hrx18a ?hQx18a (Or.inl ⟨?hwx18a, ?hyx18a⟩) hS ?restx18a
    case h1x18a => (simp only [List.getElem?_toArray, List.getElem?_cons_succ, List.getElem?_cons_zero]; rfl)
    case hsx18a => kernel_rfl
    case hfx18a => kernel_rfl
    case hrx18a => kernel_rfl
    case hQx18a => exact fun _ _ _ h => h
    case hwx18a => rfl
    case hyx18a =>
      intro W hW
      have dd := (SB.out.below hW).str
      go_simp
      try with_reducible rfl
    simp only [Act.put, List.setIfInBounds_toArray, List.set_cons_succ, List.set_cons_zero]
    refine wpAnyH_ready (rs := [15]) (by kernel_rfl) (by simp) ?_
    refine' AllReadyH.cons ?hoc15a (fun K hK => ?stc15a) AllReadyH.nil
    case hoc15a => (simp only [List.getElem?_toArray, List.getElem?_cons_succ, List.getElem?_cons_zero]; rfl)
    go_simp
    refine (WB.out _).mono ?_
    rintro e wka2 ⟨gb, rfl, hs, hb, _⟩
    go_wp2_with fail
    refine hK.out _ _ (hS.trans (hb.mono hS.size)) (fun hHeld => ?_)
    clear hK K
    try simp only [Act.put, List.setIfInBounds_toArray, List.set_cons_succ, List.set_cons_zero]
    have SBS := Lib.hid hs
    clear hs
    have GB := Lib.hid (GB.out.trans (hHeld.mono GB.out.size))
    have GX := Lib.hid ((hHeld.block _ (blk_lt GX.out)).trans GX.out)
    have GT := Lib.hid ((hHeld.block _ (blk_lt GT.out)).trans GT.out)
    have GY := Lib.hid ((hHeld.block _ (blk_lt GY.out)).trans GY.out)
    have GC := Lib.hid ((hHeld.block _ (blk_lt GC.out)).trans GC.out)
    have SB := Lib.hid (SB.out.below hHeld)
    refine wpAnyH_mono (S' := fun W => Below wka2.heap.size wka2 W) (fun _ h => hHeld.trans (h.mono hHeld.size)) _ _ _ _ ?_
    clear hS hb hHeld
    have hS : Below wka2.heap.size wka2 wka2 := Below.refl _ _
    refine' wpAnyH_take (i := 16) ?h1x16a ?hsx16a ?hfx16a ?hrx16a ?hQx16a (Or.inl ⟨?hwx16a, ?hyx16a⟩) hS ?restx16a
    case h1x16a => (simp only [List.getElem?_toArray, List.getElem?_cons_succ, List.getElem?_cons_zero]; rfl)
    case hsx16a => kernel_rfl
    case hfx16a => kernel_rfl
    case hrx16a => kernel_rfl
    case hQx16a => exact fun _ _ _ h => h
    case hwx16a => rfl
    case hyx16a =>
      intro W hW
      have dd := (SBS.out.below hW).str
      go_simp
      try with_reducible rfl
    simp only [Act.put, List.setIfInBounds_toArray, List.set_cons_succ, List.set_cons_zero]
    refine' wpAnyH_take (i := 19) ?h1x19a ?hsx19a ?hfx19a ?hrx19a ?hQx19a (Or.inl ⟨?hwx19a, ?hyx19a⟩) hS ?restx19a
    case h1x19a => (simp only [List.getElem?_toArray, List.getElem?_cons_succ, List.getElem?_cons_zero]; rfl)
    case hsx19a => kernel_rfl
    case hfx19a => kernel_rfl
    case hrx19a => kernel_rfl
    case hQx19a => exact fun _ _ _ h => h
    case hwx19a => rfl
    case hyx19a =>
      intro W hW
      have dd := EB.out (by first | rfl | trivial)
      go_simp
      try with_reducible rfl
    simp only [Act.put, List.setIfInBounds_toArray, List.set_cons_succ, List.set_cons_zero]
    refine' wpAnyH_take (i := 20) ?h1x20a ?hsx20a ?hfx20a ?hrx20a ?hQx20a (Or.inl ⟨?hwx20a, ?hyx20a⟩) hS ?restx20a
    case h1x20a => (simp only [List.getElem?_toArray, List.getElem?_cons_succ, List.getElem?_cons_zero]; rfl)
    case hsx20a => kernel_rfl
    case hfx20a => kernel_rfl
    case hrx20a => kernel_rfl
    case hQx20a => exact fun _ _ _ h => h
    case hwx20a => rfl
    case hyx20a =>
      intro W hW
      go_simp
      try with_reducible rfl
    simp only [Act.put, List.setIfInBounds_toArray, List.set_cons_succ, List.set_cons_zero]
    refine' wpAnyH_take (i := 21) ?h1x21a ?hsx21a ?hfx21a ?hrx21a ?hQx21a (Or.inl ⟨?hwx21a, ?hyx21a⟩) hS ?restx21a
    case h1x21a => (simp only [List.getElem?_toArray, List.getElem?_cons_succ, List.getElem?_cons_zero]; rfl)
    case hsx21a => kernel_rfl
    case hfx21a => kernel_rfl
    case hrx21a => kernel_rfl
    case hQx21a => exact fun _ _ _ h => h
    case hwx21a => rfl
    case hyx21a =>
      intro W hW
      go_simp
      try with_reducible rfl
    simp only [Act.put, List.setIfInBounds_toArray, List.set_cons_succ, List.set_cons_zero]
    refine' wpAnyH_take (i := 22) ?h1x22a ?hsx22a ?hfx22a ?hrx22a ?hQx22a (Or.inl ⟨?hwx22a, ?hyx22a⟩) hS ?restx22a
    case h1x22a => (simp only [List.getElem?_toArray, List.getElem?_cons_succ, List.getElem?_cons_zero]; rfl)
    case hsx22a => kernel_rfl
    case hfx22a => kernel_rfl
    case hrx22a => kernel_rfl
    case hQx22a => exact fun _ _ _ h => h
    case hwx22a => rfl
    case hyx22a =>
      intro W hW
      go_simp
      try with_reducible rfl
    simp only [Act.put, List.setIfInBounds_toArray, List.set_cons_succ, List.set_cons_zero]
    refine' wpAnyH_take (i := 23) ?h1x23a ?hsx23a ?hfx23a ?hrx23a ?hQx23a (yieldsIf_load_at ?hwx23a 61 (.tmp 3) ?hopx23a w.heap.size 0 rfl CX _ (fun W hW => range_row ((hW.block _ (blk_lt GX.out)).trans GX.out)) Try.underlying61 rfl ?hix23a) hS ?restx23a
    case h1x23a => (simp only [List.getElem?_toArray, List.getElem?_cons_succ, List.getElem?_cons_zero]; rfl)
    case hopx23a => rfl
    case hsx23a => kernel_rfl
    case hfx23a => kernel_rfl
    case hrx23a => kernel_rfl
    case hQx23a => exact fun _ _ _ h => h
    case hwx23a => rfl
    case hix23a => exact IX.out
    simp only [Act.put, List.setIfInBounds_toArray, List.set_cons_succ, List.set_cons_zero]
    refine' wpAnyH_take (i := 26) ?h1x26a ?hsx26a ?hfx26a ?hrx26a ?hQx26a (yieldsIf_load_at ?hwx26a 61 (.tmp 4) ?hopx26a (w.heap.size + 1) 0 rfl CT _ (fun W hW => range_row ((hW.block _ (blk_lt GT.out)).trans GT.out)) Try.underlying61 rfl ?hix26a) hS ?restx26a
    case h1x26a => (simp only [List.getElem?_toArray, List.getElem?_cons_succ, List.getElem?_cons_zero]; rfl)
    case hopx26a => rfl
    case hsx26a => kernel_rfl
    case hfx26a => kernel_rfl
    case hrx26a => kernel_rfl
    case hQx26a => exact fun _ _ _ h => h
    case hwx26a => rfl
    case hix26a => exact IT.out
    simp only [Act.put, List.setIfInBounds_toArray, List.set_cons_succ, List.set_cons_zero]
    refine' wpAnyH_take (i := 30) ?h1x30a ?hsx30a ?hfx30a ?hrx30a ?hQx30a (yieldsIf_load_at ?hwx30a 61 (.tmp 3) ?hopx30a w.heap.size 0 rfl CX _ (fun W hW => range_row ((hW.block _ (blk_lt GX.out)).trans GX.out)) Try.underlying61 rfl ?hix30a) hS ?restx30a
    case h1x30a => (simp only [List.getElem?_toArray, List.getElem?_cons_succ, List.getElem?_cons_zero]; rfl)
    case hopx30a => rfl
    case hsx30a => kernel_rfl
    case hfx30a => kernel_rfl
    case hrx30a => kernel_rfl
    case hQx30a => exact fun _ _ _ h => h
    case hwx30a => rfl
    case hix30a => exact IX.out
    simp only [Act.put, List.setIfInBounds_toArray, List.set_cons_succ, List.set_cons_zero]
    refine' wpAnyH_take (i := 31) ?h1x31a ?hsx31a ?hfx31a ?hrx31a ?hQx31a (yieldsIf_load_at ?hwx31a 61 (.tmp 4) ?hopx31a (w.heap.size + 1) 0 rfl CT _ (fun W hW => range_row ((hW.block _ (blk_lt GT.out)).trans GT.out)) Try.underlying61 rfl ?hix31a) hS ?restx31a
    case h1x31a => (simp only [List.getElem?_toArray, List.getElem?_cons_succ, List.getElem?_cons_zero]; rfl)
    case hopx31a => rfl
    case hsx31a => kernel_rfl
    case hfx31a => kernel_rfl
    case hrx31a => kernel_rfl
    case hQx31a => exact fun _ _ _ h => h
    case hwx31a => rfl
    case hix31a => exact IT.out
    simp only [Act.put, List.setIfInBounds_toArray, List.set_cons_succ, List.set_cons_zero]
    refine' wpAnyH_take (i := 32) ?h1x32a ?hsx32a ?hfx32a ?hrx32a ?hQx32a (Or.inl ⟨?hwx32a, ?hyx32a⟩) hS ?restx32a
    case h1x32a => (simp only [List.getElem?_toArray, List.getElem?_cons_succ, List.getElem?_cons_zero]; rfl)
    case hsx32a => kernel_rfl
    case hfx32a => kernel_rfl
    case hrx32a => kernel_rfl
    case hQx32a => exact fun _ _ _ h => h
    case hwx32a => rfl
    case hyx32a =>
      intro W hW
      have dd := ET.out
      go_simp
      try with_reducible rfl
    simp only [Act.put, List.setIfInBounds_toArray, List.set_cons_succ, List.set_cons_zero]
    refine wpAnyH_ready (rs := [24]) (by kernel_rfl) (by simp) ?_
    refine' AllReadyH.cons ?hoc24a (fun K hK => ?stc24a) AllReadyH.nil
    case hoc24a => (simp only [List.getElem?_toArray, List.getElem?_cons_succ, List.getElem?_cons_zero]; rfl)
    go_simp
    refine (WX.out _).mono ?_
    rintro e wka3 ⟨gx, rfl, hs, hb, _⟩
    go_wp2_with fail
    refine hK.out _ _ (hS.trans (hb.mono hS.size)) (fun hHeld => ?_)
    clear hK K
    try simp only [Act.put, List.setIfInBounds_toArray, List.set_cons_succ, List.set_cons_zero]
    have SXS := Lib.hid hs
    clear hs
    have GB := Lib.hid (GB.out.trans (hHeld.mono GB.out.size))
    have GX := Lib.hid ((hHeld.block _ (blk_lt GX.out)).trans GX.out)
    have GT := Lib.hid ((hHeld.block _ (blk_lt GT.out)).trans GT.out)
    have GY := Lib.hid ((hHeld.block _ (blk_lt GY.out)).trans GY.out)
    have GC := Lib.hid ((hHeld.block _ (blk_lt GC.out)).trans GC.out)
    have SB := Lib.hid (SB.out.below hHeld)
    have SBS := Lib.hid (SBS.out.below hHeld)
    refine wpAnyH_mono (S' := fun W => Below wka3.heap.size wka3 W) (fun _ h => hHeld.trans (h.mono hHeld.size)) _ _ _ _ ?_
    clear hS hb hHeld
    have hS : Below wka3.heap.size wka3 wka3 := Below.refl _ _
    refine' wpAnyH_take (i := 25) ?h1x25a ?hsx25a ?hfx25a ?hrx25a ?hQx25a (Or.inl ⟨?hwx25a, ?hyx25a⟩) hS ?restx25a
    case h1x25a => (simp only [List.getElem?_toArray, List.getElem?_cons_succ, List.getElem?_cons_zero]; rfl)
    case hsx25a => kernel_rfl
    case hfx25a => kernel_rfl
    case hrx25a => kernel_rfl
    case hQx25a => exact fun _ _ _ h => h
    case hwx25a => rfl
    case hyx25a =>
      intro W hW
      have dd := (SXS.out.below hW).str
      go_simp
      try with_reducible rfl
    simp only [Act.put, List.setIfInBounds_toArray, List.set_cons_succ, List.set_cons_zero]
    refine wpAnyH_ready (rs := [27]) (by kernel_rfl) (by simp) ?_
    refine' AllReadyH.cons ?hoc27a (fun K hK => ?stc27a) AllReadyH.nil
    case hoc27a => (simp only [List.getElem?_toArray, List.getElem?_cons_succ, List.getElem?_cons_zero]; rfl)
    go_simp
    refine (WT.out _).mono ?_
    rintro e wka4 ⟨gt, rfl, hs, hb, _⟩
    go_wp2_with fail
    refine hK.out _ _ (hS.trans (hb.mono hS.size)) (fun hHeld => ?_)
    clear hK K
    try simp only [Act.put, List.setIfInBounds_toArray, List.set_cons_succ, List.set_cons_zero]
    have STS := Lib.hid hs
    clear hs
    have GB := Lib.hid (GB.out.trans (hHeld.mono GB.out.size))
    have GX := Lib.hid ((hHeld.block _ (blk_lt GX.out)).trans GX.out)
    have GT := Lib.hid ((hHeld.block _ (blk_lt GT.out)).trans GT.out)
    have GY := Lib.hid ((hHeld.block _ (blk_lt GY.out)).trans GY.out)
    have GC := Lib.hid ((hHeld.block _ (blk_lt GC.out)).trans GC.out)
    have SB := Lib.hid (SB.out.below hHeld)
    have SBS := Lib.hid (SBS.out.below hHeld)
    have SXS := Lib.hid (SXS.out.below hHeld)
    refine wpAnyH_mono (S' := fun W => Below wka4.heap.size wka4 W) (fun _ h => hHeld.trans (h.mono hHeld.size)) _ _ _ _ ?_
    clear hS hb hHeld
    have hS : Below wka4.heap.size wka4 wka4 := Below.refl _ _
    refine' wpAnyH_take (i := 28) ?h1x28a ?hsx28a ?hfx28a ?hrx28a ?hQx28a (Or.inl ⟨?hwx28a, ?hyx28a⟩) hS ?restx28a
    case h1x28a => (simp only [List.getElem?_toArray, List.getElem?_cons_succ, List.getElem?_cons_zero]; rfl)
    case hsx28a => kernel_rfl
    case hfx28a => kernel_rfl
    case hrx28a => kernel_rfl
    case hQx28a => exact fun _ _ _ h => h
    case hwx28a => rfl
    case hyx28a =>
      intro W hW
      have dd := (STS.out.below hW).str
      go_simp
      try with_reducible rfl
    simp only [Act.put, List.setIfInBounds_toArray, List.set_cons_succ, List.set_cons_zero]
    refine' wpAnyH_take (i := 29) ?h1x29a ?hsx29a ?hfx29a ?hrx29a ?hQx29a (Or.inl ⟨?hwx29a, ?hyx29a⟩) hS ?restx29a
    case h1x29a => (simp only [List.getElem?_toArray, List.getElem?_cons_succ, List.getElem?_cons_zero]; rfl)
    case hsx29a => kernel_rfl
    case hfx29a => kernel_rfl
    case hrx29a => kernel_rfl
    case hQx29a => exact fun _ _ _ h => h
    case hwx29a => rfl
    case hyx29a =>
      intro W hW
      have dd := ES.out
      go_simp
      try with_reducible rfl
    simp only [Act.put, List.setIfInBounds_toArray, List.set_cons_succ, List.set_cons_zero]
    refine' wpAnyH_take (i := 33) ?h1x33a ?hsx33a ?hfx33a ?hrx33a ?hQx33a (Or.inl ⟨?hwx33a, ?hyx33a⟩) hS ?restx33a
    case h1x33a => (simp only [List.getElem?_toArray, List.getElem?_cons_succ, List.getElem?_cons_zero]; rfl)
    case hsx33a => kernel_rfl
    case hfx33a => kernel_rfl
    case hrx33a => kernel_rfl
    case hQx33a => exact fun _ _ _ h => h
    case hwx33a => rfl
    case hyx33a =>
      intro W hW
      go_simp
      try with_reducible rfl
    simp only [Act.put, List.setIfInBounds_toArray, List.set_cons_succ, List.set_cons_zero]
    refine' wpAnyH_take (i := 34) ?h1x34a ?hsx34a ?hfx34a ?hrx34a ?hQx34a (Or.inl ⟨?hwx34a, ?hyx34a⟩) hS ?restx34a
    case h1x34a => (simp only [List.getElem?_toArray, List.getElem?_cons_succ, List.getElem?_cons_zero]; rfl)
    case hsx34a => kernel_rfl
    case hfx34a => kernel_rfl
    case hrx34a => kernel_rfl
    case hQx34a => exact fun _ _ _ h => h
    case hwx34a => rfl
    case hyx34a =>
      intro W hW
      go_simp
      try with_reducible rfl
    simp only [Act.put, List.setIfInBounds_toArray, List.set_cons_succ, List.set_cons_zero]
    refine' wpAnyH_take (i := 35) ?h1x35a ?hsx35a ?hfx35a ?hrx35a ?hQx35a (Or.inl ⟨?hwx35a, ?hyx35a⟩) hS ?restx35a
    case h1x35a => (simp only [List.getElem?_toArray, List.getElem?_cons_succ, List.getElem?_cons_zero]; rfl)
    case hsx35a => kernel_rfl
    case hfx35a => kernel_rfl
    case hrx35a => kernel_rfl
    case hQx35a => exact fun _ _ _ h => h
    case hwx35a => rfl
    case hyx35a =>
      intro W hW
      go_simp
      try with_reducible rfl
    simp only [Act.put, List.setIfInBounds_toArray, List.set_cons_succ, List.set_cons_zero]
    refine wpAnyH_done (by kernel_rfl) ?_ _
    go_wp2_with fail
    go_ret
    exact ⟨rfl, GB.out⟩
  · refine wp_region_held_drew (S := fun W => Below w5.heap.size w5 W) (by kernel_rfl) (Below.refl _ _).drew (fun hS => ?_)
    refine wpAnyH_ready (rs := [0]) (by kernel_rfl) (by simp) ?_
    refine' AllReadyH.cons ?hoc0b (fun K hK => ?stc0b) AllReadyH.nil
    case hoc0b => (simp only [List.getElem?_toArray, List.getElem?_cons_zero]; rfl)
    go_simp
    refine (alive20 _).mono ?_
    rintro e wkb1 ⟨rfl, hb⟩
    go_wp2_with fail
    refine hK.out _ _ (hS.trans (hb.mono hS.size)) (fun hHeld => ?_)
    clear hK K
    try simp only [Act.put, List.setIfInBounds_toArray, List.set_cons_succ, List.set_cons_zero]
    have GB := Lib.hid (GB.out.trans (hHeld.mono GB.out.size))
    have GX := Lib.hid ((hHeld.block _ (blk_lt GX.out)).trans GX.out)
    have GT := Lib.hid ((hHeld.block _ (blk_lt GT.out)).trans GT.out)
    have GY := Lib.hid ((hHeld.block _ (blk_lt GY.out)).trans GY.out)
    have GC := Lib.hid ((hHeld.block _ (blk_lt GC.out)).trans GC.out)
    have SB := Lib.hid (SB.out.below hHeld)
    refine wpAnyH_mono (S' := fun W => Below wkb1.heap.size wkb1 W) (fun _ h => hHeld.trans (h.mono hHeld.size)) _ _ _ _ ?_
    clear hS hb hHeld
    have hS : Below wkb1.heap.size wkb1 wkb1 := Below.refl _ _
    refine' wpAnyH_take (i := 1) ?h1x1b ?hsx1b ?hfx1b ?hrx1b ?hQx1b (Or.inl ⟨?hwx1b, ?hyx1b⟩) hS ?restx1b
    case h1x1b => (simp only [List.getElem?_toArray, List.getElem?_cons_succ, List.getElem?_cons_zero]; rfl)
    case hsx1b => kernel_rfl
    case hfx1b => kernel_rfl
    case hrx1b => kernel_rfl
    case hQx1b => exact fun _ _ _ h => h
    case hwx1b => rfl
    case hyx1b =>
      intro W hW
      go_simp
      try with_reducible rfl
    simp only [Act.put, List.setIfInBounds_toArray, List.set_cons_succ, List.set_cons_zero]
    refine' wpAnyH_take (i := 2) ?h1x2b ?hsx2b ?hfx2b ?hrx2b ?hQx2b (Or.inl ⟨?hwx2b, ?hyx2b⟩) hS ?restx2b
    case h1x2b => (simp only [List.getElem?_toArray, List.getElem?_cons_succ, List.getElem?_cons_zero]; rfl)
    case hsx2b => kernel_rfl
    case hfx2b => kernel_rfl
    case hrx2b => kernel_rfl
    case hQx2b => exact fun _ _ _ h => h
    case hwx2b => rfl
    case hyx2b =>
      intro W hW
      go_simp
      try with_reducible rfl
    simp only [Act.put, List.setIfInBounds_toArray, List.set_cons_succ, List.set_cons_zero]
    refine' wpAnyH_take (i := 3) ?h1x3b ?hsx3b ?hfx3b ?hrx3b ?hQx3b (Or.inl ⟨?hwx3b, ?hyx3b⟩) hS ?restx3b
    case h1x3b => (simp only [List.getElem?_toArray, List.getElem?_cons_succ, List.getElem?_cons_zero]; rfl)
    case hsx3b => kernel_rfl
    case hfx3b => kernel_rfl
    case hrx3b => kernel_rfl
    case hQx3b => exact fun _ _ _ h => h
    case hwx3b => rfl
    case hyx3b =>
      intro W hW
      go_simp
      try with_reducible rfl
    simp only [Act.put, List.setIfInBounds_toArray, List.set_cons_succ, List.set_cons_zero]
    refine' wpAnyH_take (i := 4) ?h1x4b ?hsx4b ?hfx4b ?hrx4b ?hQx4b (Or.inl ⟨?hwx4b, ?hyx4b⟩) hS ?restx4b
    case h1x4b => (simp only [List.getElem?_toArray, List.getElem?_cons_succ, List.getElem?_cons_zero]; rfl)
    case hsx4b => kernel_rfl
    case hfx4b => kernel_rfl
    case hrx4b => kernel_rfl
    case hQx4b => exact fun _ _ _ h => h
    case hwx4b => rfl
    case hyx4b =>
      intro W hW
      go_simp
      try with_reducible rfl
    simp only [Act.put, List.setIfInBounds_toArray, List.set_cons_succ, List.set_cons_zero]
    refine' wpAnyH_take (i := 5) ?h1x5b ?hsx5b ?hfx5b ?hrx5b ?hQx5b (Or.inl ⟨?hwx5b, ?hyx5b⟩) hS ?restx5b
    case h1x5b => (simp only [List.getElem?_toArray, List.getElem?_cons_succ, List.getElem?_cons_zero]; rfl)
    case hsx5b => kernel_rfl
    case hfx5b => kernel_rfl
    case hrx5b => kernel_rfl
    case hQx5b => exact fun _ _ _ h => h
    case hwx5b => rfl
    case hyx5b =>
      intro W hW
      go_simp
      try with_reducible rfl
    simp only [Act.put, List.setIfInBounds_toArray, List.set_cons_succ, List.set_cons_zero]
    refine' wpAnyH_take (i := 6) ?h1x6b ?hsx6b ?hfx6b ?hrx6b ?hQx6b (yieldsIf_load_at ?hwx6b 61 (.tmp 7) ?hopx6b g2 0 rfl CX _ (fun W hW => range_row ((hW.block _ (blk_lt GY.out)).trans GY.out)) Try.underlying61 rfl ?hix6b) hS ?restx6b
    case h1x6b => (simp only [List.getElem?_toArray, List.getElem?_cons_succ, List.getElem?_cons_zero]; rfl)
    case hopx6b => rfl
    case hsx6b => kernel_rfl
    case hfx6b => kernel_rfl
    case hrx6b => kernel_rfl
    case hQx6b => exact fun _ _ _ h => h
    case hwx6b => rfl
    case hix6b => exact IX.out
    simp only [Act.put, List.setIfInBounds_toArray, List.set_cons_succ, List.set_cons_zero]
    refine' wpAnyH_take (i := 7) ?h1x7b ?hsx7b ?hfx7b ?hrx7b ?hQx7b (yieldsIf_load_at ?hwx7b 61 (.tmp 3) ?hopx7b w.heap.size 0 rfl CX _ (fun W hW => range_row ((hW.block _ (blk_lt GX.out)).trans GX.out)) Try.underlying61 rfl ?hix7b) hS ?restx7b
    case h1x7b => (simp only [List.getElem?_toArray, List.getElem?_cons_succ, List.getElem?_cons_zero]; rfl)
    case hopx7b => rfl
    case hsx7b => kernel_rfl
    case hfx7b => kernel_rfl
    case hrx7b => kernel_rfl
    case hQx7b => exact fun _ _ _ h => h
    case hwx7b => rfl
    case hix7b => exact IX.out
    simp only [Act.put, List.setIfInBounds_toArray, List.set_cons_succ, List.set_cons_zero]
    refine' wpAnyH_take (i := 8) ?h1x8b ?hsx8b ?hfx8b ?hrx8b ?hQx8b (Or.inl ⟨?hwx8b, ?hyx8b⟩) hS ?restx8b
    case h1x8b => (simp only [List.getElem?_toArray, List.getElem?_cons_succ, List.getElem?_cons_zero]; rfl)
    case hsx8b => kernel_rfl
    case hfx8b => kernel_rfl
    case hrx8b => kernel_rfl
    case hQx8b => exact fun _ _ _ h => h
    case hwx8b => rfl
    case hyx8b =>
      intro W hW
      have dd := EX.out
      go_simp
      try with_reducible rfl
    simp only [Act.put, List.setIfInBounds_toArray, List.set_cons_succ, List.set_cons_zero]
    refine' wpAnyH_take (i := 9) ?h1x9b ?hsx9b ?hfx9b ?hrx9b ?hQx9b (Or.inl ⟨?hwx9b, ?hyx9b⟩) hS ?restx9b
    case h1x9b => (simp only [List.getElem?_toArray, List.getElem?_cons_succ, List.getElem?_cons_zero]; rfl)
    case hsx9b => kernel_rfl
    case hfx9b => kernel_rfl
    case hrx9b => kernel_rfl
    case hQx9b => exact fun _ _ _ h => h
    case hwx9b => rfl
    case hyx9b =>
      intro W hW
      go_simp
      try with_reducible rfl
    simp only [Act.put, List.setIfInBounds_toArray, List.set_cons_succ, List.set_cons_zero]
    refine' wpAnyH_take (i := 10) ?h1x10b ?hsx10b ?hfx10b ?hrx10b ?hQx10b (Or.inl ⟨?hwx10b, ?hyx10b⟩) hS ?restx10b
    case h1x10b => (simp only [List.getElem?_toArray, List.getElem?_cons_succ, List.getElem?_cons_zero]; rfl)
    case hsx10b => kernel_rfl
    case hfx10b => kernel_rfl
    case hrx10b => kernel_rfl
    case hQx10b => exact fun _ _ _ h => h
    case hwx10b => rfl
    case hyx10b =>
      intro W hW
      go_simp
      try with_reducible rfl
    simp only [Act.put, List.setIfInBounds_toArray, List.set_cons_succ, List.set_cons_zero]
    refine' wpAnyH_take (i := 11) ?h1x11b ?hsx11b ?hfx11b ?hrx11b ?hQx11b (Or.inl ⟨?hwx11b, ?hyx11b⟩) hS ?restx11b
    case h1x11b => (simp only [List.getElem?_toArray, List.getElem?_cons_succ, List.getElem?_cons_zero]; rfl)
    case hsx11b => kernel_rfl
    case hfx11b => kernel_rfl
    case hrx11b => kernel_rfl
    case hQx11b => exact fun _ _ _ h => h
    case hwx11b => rfl
    case hyx11b =>
      intro W hW
      go_simp
      try with_reducible rfl
    simp only [Act.put, List.setIfInBounds_toArray, List.set_cons_succ, List.set_cons_zero]
    refine' wpAnyH_take (i := 12) ?h1x12b ?hsx12b ?hfx12b ?hrx12b ?hQx12b (Or.inl ⟨?hwx12b, ?hyx12b⟩) hS ?restx12b
    case h1x12b => (simp only [List.getElem?_toArray, List.getElem?_cons_succ, List.getElem?_cons_zero]; rfl)
    case hsx12b => kernel_rfl
    case hfx12b => kernel_rfl
    case hrx12b => kernel_rfl
    case hQx12b => exact fun _ _ _ h => h
    case hwx12b => rfl
    case hyx12b =>
      intro W hW
      go_simp
      try with_reducible rfl
    simp only [Act.put, List.setIfInBounds_toArray, List.set_cons_succ, List.set_cons_zero]
    refine' wpAnyH_take (i := 13) ?h1x13b ?hsx13b ?hfx13b ?hrx13b ?hQx13b (Or.inl ⟨?hwx13b, ?hyx13b⟩) hS ?restx13b
    case h1x13b => (simp only [List.getElem?_toArray, List.getElem?_cons_succ, List.getElem?_cons_zero]; rfl)
    case hsx13b => kernel_rfl
    case hfx13b => kernel_rfl
    case hrx13b => kernel_rfl
    case hQx13b => exact fun _ _ _ h => h
    case hwx13b => rfl
    case hyx13b =>
      intro W hW
      go_simp
      try with_reducible rfl
    simp only [Act.put, List.setIfInBounds_toArray, List.set_cons_succ, List.set_cons_zero]
    refine' wpAnyH_take (i := 14) ?h1x14b ?hsx14b ?hfx14b ?hrx14b ?hQx14b (Or.inr ⟨?hwx14b, rfl⟩) hS ?restx14b
    case h1x14b => (simp only [List.getElem?_toArray, List.getElem?_cons_succ, List.getElem?_cons_zero]; rfl)
    case hsx14b => kernel_rfl
    case hfx14b => kernel_rfl
    case hrx14b => kernel_rfl
    case hQx14b => exact fun _ _ _ h => h
    case hwx14b => rfl
    simp only [Act.put, List.setIfInBounds_toArray, List.set_cons_succ, List.set_cons_zero]
    refine' wpAnyH_take (i := 15) ?h1x15b ?hsx15b ?hfx15b ?hrx15b ?hQx15b (Or.inr ⟨?hwx15b, rfl⟩) hS ?restx15b
    case h1x15b => (simp only [List.getElem?_toArray, List.getElem?_cons_succ, List.getElem?_cons_zero]; rfl)
    case hsx15b => kernel_rfl
    case hfx15b => kernel_rfl
    case hrx15b => kernel_rfl
    case hQx15b => exact fun _ _ _ h => h
    case hwx15b => rfl
    simp only [Act.put, List.setIfInBounds_toArray, List.set_cons_succ, List.set_cons_zero]
    refine' wpAnyH_take (i := 16) ?h1x16b ?hsx16b ?hfx16b ?hrx16b ?hQx16b (Or.inr ⟨?hwx16b, rfl⟩) hS ?restx16b
    case h1x16b => (simp only [List.getElem?_toArray, List.getElem?_cons_succ, List.getElem?_cons_zero]; rfl)
    case hsx16b => kernel_rfl
    case hfx16b => kernel_rfl
    case hrx16b => kernel_rfl
    case hQx16b => exact fun _ _ _ h => h
    case hwx16b => rfl
    simp only [Act.put, List.setIfInBounds_toArray, List.set_cons_succ, List.set_cons_zero]
    refine' wpAnyH_take (i := 17) ?h1x17b ?hsx17b ?hfx17b ?hrx17b ?hQx17b (Or.inr ⟨?hwx17b, rfl⟩) hS ?restx17b
    case h1x17b => (simp only [List.getElem?_toArray, List.getElem?_cons_succ, List.getElem?_cons_zero]; rfl)
    case hsx17b => kernel_rfl
    case hfx17b => kernel_rfl
    case hrx17b => kernel_rfl
    case hQx17b => exact fun _ _ _ h => h
    case hwx17b => rfl
    simp only [Act.put, List.setIfInBounds_toArray, List.set_cons_succ, List.set_cons_zero]
    refine' wpAnyH_take (i := 18) ?h1x18b ?hsx18b ?hfx18b ?hrx18b ?hQx18b (Or.inr ⟨?hwx18b, rfl⟩) hS ?restx18b
    case h1x18b => (simp only [List.getElem?_toArray, List.getElem?_cons_succ, List.getElem?_cons_zero]; rfl)
    case hsx18b => kernel_rfl
    case hfx18b => kernel_rfl
    case hrx18b => kernel_rfl
    case hQx18b => exact fun _ _ _ h => h
    case hwx18b => rfl
    simp only [Act.put, List.setIfInBounds_toArray, List.set_cons_succ, List.set_cons_zero]
    refine' wpAnyH_take (i := 19) ?h1x19b ?hsx19b ?hfx19b ?hrx19b ?hQx19b (Or.inr ⟨?hwx19b, rfl⟩) hS ?restx19b
    case h1x19b => (simp only [List.getElem?_toArray, List.getElem?_cons_succ, List.getElem?_cons_zero]; rfl)
    case hsx19b => kernel_rfl
    case hfx19b => kernel_rfl
    case hrx19b => kernel_rfl
    case hQx19b => exact fun _ _ _ h => h
    case hwx19b => rfl
    simp only [Act.put, List.setIfInBounds_toArray, List.set_cons_succ, List.set_cons_zero]
    refine' wpAnyH_take (i := 20) ?h1x20b ?hsx20b ?hfx20b ?hrx20b ?hQx20b (Or.inl ⟨?hwx20b, ?hyx20b⟩) hS ?restx20b
    case h1x20b => (simp only [List.getElem?_toArray, List.getElem?_cons_succ, List.getElem?_cons_zero]; rfl)
    case hsx20b => kernel_rfl
    case hfx20b => kernel_rfl
    case hrx20b => kernel_rfl
    case hQx20b => exact fun _ _ _ h => h
    case hwx20b => rfl
    case hyx20b =>
      intro W hW
      go_simp
      try with_reducible rfl
    simp only [Act.put, List.setIfInBounds_toArray, List.set_cons_succ, List.set_cons_zero]
    refine' wpAnyH_take (i := 21) ?h1x21b ?hsx21b ?hfx21b ?hrx21b ?hQx21b (Or.inl ⟨?hwx21b, ?hyx21b⟩) hS ?restx21b
    case h1x21b => (simp only [List.getElem?_toArray, List.getElem?_cons_succ, List.getElem?_cons_zero]; rfl)
    case hsx21b => kernel_rfl
    case hfx21b => kernel_rfl
    case hrx21b => kernel_rfl
    case hQx21b => exact fun _ _ _ h => h
    case hwx21b => rfl
    case hyx21b =>
      intro W hW
      go_simp
      try with_reducible rfl
    simp only [Act.put, List.setIfInBounds_toArray, List.set_cons_succ, List.set_cons_zero]
    refine' wpAnyH_take (i := 22) ?h1x22b ?hsx22b ?hfx22b ?hrx22b ?hQx22b (Or.inl ⟨?hwx22b, ?hyx22b⟩) hS ?restx22b
    case h1x22b => (simp only [List.getElem?_toArray, List.getElem?_cons_succ, List.getElem?_cons_zero]; rfl)
    case hsx22b => kernel_rfl
    case hfx22b => kernel_rfl
    case hrx22b => kernel_rfl
    case hQx22b => exact fun _ _ _ h => h
    case hwx22b => rfl
    case hyx22b =>
      intro W hW
      go_simp
      try with_reducible rfl
    simp only [Act.put, List.setIfInBounds_toArray, List.set_cons_succ, List.set_cons_zero]
    refine' wpAnyH_take (i := 23) ?h1x23b ?hsx23b ?hfx23b ?hrx23b ?hQx23b (yieldsIf_load_at ?hwx23b 61 (.tmp 3) ?hopx23b w.heap.size 0 rfl CX _ (fun W hW => range_row ((hW.block _ (blk_lt GX.out)).trans GX.out)) Try.underlying61 rfl ?hix23b) hS ?restx23b
    case h1x23b => (simp only [List.getElem?_toArray, List.getElem?_cons_succ, List.getElem?_cons_zero]; rfl)
    case hopx23b => rfl
    case hsx23b => kernel_rfl
    case hfx23b => kernel_rfl
    case hrx23b => kernel_rfl
    case hQx23b => exact fun _ _ _ h => h
    case hwx23b => rfl
    case hix23b => exact IX.out
    simp only [Act.put, List.setIfInBounds_toArray, List.set_cons_succ, List.set_cons_zero]
    refine' wpAnyH_take (i := 26) ?h1x26b ?hsx26b ?hfx26b ?hrx26b ?hQx26b (yieldsIf_load_at ?hwx26b 61 (.tmp 4) ?hopx26b (w.heap.size + 1) 0 rfl CT _ (fun W hW => range_row ((hW.block _ (blk_lt GT.out)).trans GT.out)) Try.underlying61 rfl ?hix26b) hS ?restx26b
    case h1x26b => (simp only [List.getElem?_toArray, List.getElem?_cons_succ, List.getElem?_cons_zero]; rfl)
    case hopx26b => rfl
    case hsx26b => kernel_rfl
    case hfx26b => kernel_rfl
    case hrx26b => kernel_rfl
    case hQx26b => exact fun _ _ _ h => h
    case hwx26b => rfl
    case hix26b => exact IT.out
    simp only [Act.put, List.setIfInBounds_toArray, List.set_cons_succ, List.set_cons_zero]
    refine' wpAnyH_take (i := 30) ?h1x30b ?hsx30b ?hfx30b ?hrx30b ?hQx30b (yieldsIf_load_at ?hwx30b 61 (.tmp 3) ?hopx30b w.heap.size 0 rfl CX _ (fun W hW => range_row ((hW.block _ (blk_lt GX.out)).trans GX.out)) Try.underlying61 rfl ?hix30b) hS ?restx30b
    case h1x30b => (simp only [List.getElem?_toArray, List.getElem?_cons_succ, List.getElem?_cons_zero]; rfl)
    case hopx30b => rfl
    case hsx30b => kernel_rfl
    case hfx30b => kernel_rfl
    case hrx30b => kernel_rfl
    case hQx30b => exact fun _ _ _ h => h
    case hwx30b => rfl
    case hix30b => exact IX.out
    simp only [Act.put, List.setIfInBounds_toArray, List.set_cons_succ, List.set_cons_zero]
    refine' wpAnyH_take (i := 31) ?h1x31b ?hsx31b ?hfx31b ?hrx31b ?hQx31b (yieldsIf_load_at ?hwx31b 61 (.tmp 4) ?hopx31b (w.heap.size + 1) 0 rfl CT _ (fun W hW => range_row ((hW.block _ (blk_lt GT.out)).trans GT.out)) Try.underlying61 rfl ?hix31b) hS ?restx31b
    case h1x31b => (simp only [List.getElem?_toArray, List.getElem?_cons_succ, List.getElem?_cons_zero]; rfl)
    case hopx31b => rfl
    case hsx31b => kernel_rfl
    case hfx31b => kernel_rfl
    case hrx31b => kernel_rfl
    case hQx31b => exact fun _ _ _ h => h
    case hwx31b => rfl
    case hix31b => exact IT.out
    simp only [Act.put, List.setIfInBounds_toArray, List.set_cons_succ, List.set_cons_zero]
    refine' wpAnyH_take (i := 32) ?h1x32b ?hsx32b ?hfx32b ?hrx32b ?hQx32b (Or.inl ⟨?hwx32b, ?hyx32b⟩) hS ?restx32b
    case h1x32b => (simp only [List.getElem?_toArray, List.getElem?_cons_succ, List.getElem?_cons_zero]; rfl)
    case hsx32b => kernel_rfl
    case hfx32b => kernel_rfl
    case hrx32b => kernel_rfl
    case hQx32b => exact fun _ _ _ h => h
    case hwx32b => rfl
    case hyx32b =>
      intro W hW
      have dd := ET.out
      go_simp
      try with_reducible rfl
    simp only [Act.put, List.setIfInBounds_toArray, List.set_cons_succ, List.set_cons_zero]
    refine wpAnyH_ready (rs := [24]) (by kernel_rfl) (by simp) ?_
    refine' AllReadyH.cons ?hoc24b (fun K hK => ?stc24b) AllReadyH.nil
    case hoc24b => (simp only [List.getElem?_toArray, List.getElem?_cons_succ, List.getElem?_cons_zero]; rfl)
    go_simp
    refine (WX.out _).mono ?_
    rintro e wkb2 ⟨gx, rfl, hs, hb, _⟩
    go_wp2_with fail
    refine hK.out _ _ (hS.trans (hb.mono hS.size)) (fun hHeld => ?_)
    clear hK K
    try simp only [Act.put, List.setIfInBounds_toArray, List.set_cons_succ, List.set_cons_zero]
    have SXS := Lib.hid hs
    clear hs
    have GB := Lib.hid (GB.out.trans (hHeld.mono GB.out.size))
    have GX := Lib.hid ((hHeld.block _ (blk_lt GX.out)).trans GX.out)
    have GT := Lib.hid ((hHeld.block _ (blk_lt GT.out)).trans GT.out)
    have GY := Lib.hid ((hHeld.block _ (blk_lt GY.out)).trans GY.out)
    have GC := Lib.hid ((hHeld.block _ (blk_lt GC.out)).trans GC.out)
    have SB := Lib.hid (SB.out.below hHeld)
    refine wpAnyH_mono (S' := fun W => Below wkb2.heap.size wkb2 W) (fun _ h => hHeld.trans (h.mono hHeld.size)) _ _ _ _ ?_
    clear hS hb hHeld
    have hS : Below wkb2.heap.size wkb2 wkb2 := Below.refl _ _
    refine' wpAnyH_take (i := 25) ?h1x25b ?hsx25b ?hfx25b ?hrx25b ?hQx25b (Or.inl ⟨?hwx25b, ?hyx25b⟩) hS ?restx25b
    case h1x25b => (simp only [List.getElem?_toArray, List.getElem?_cons_succ, List.getElem?_cons_zero]; rfl)
    case hsx25b => kernel_rfl
    case hfx25b => kernel_rfl
    case hrx25b => kernel_rfl
    case hQx25b => exact fun _ _ _ h => h
    case hwx25b => rfl
    case hyx25b =>
      intro W hW
      have dd := (SXS.out.below hW).str
      go_simp
      try with_reducible rfl
    simp only [Act.put, List.setIfInBounds_toArray, List.set_cons_succ, List.set_cons_zero]
    refine wpAnyH_ready (rs := [27]) (by kernel_rfl) (by simp) ?_
    refine' AllReadyH.cons ?hoc27b (fun K hK => ?stc27b) AllReadyH.nil
    case hoc27b => (simp only [List.getElem?_toArray, List.getElem?_cons_succ, List.getElem?_cons_zero]; rfl)
    go_simp
    refine (WT.out _).mono ?_
    rintro e wkb3 ⟨gt, rfl, hs, hb, _⟩
    go_wp2_with fail
    refine hK.out _ _ (hS.trans (hb.mono hS.size)) (fun hHeld => ?_)
    clear hK K
    try simp only [Act.put, List.setIfInBounds_toArray, List.set_cons_succ, List.set_cons_zero]
    have STS := Lib.hid hs
    clear hs
    have GB := Lib.hid (GB.out.trans (hHeld.mono GB.out.size))
    have GX := Lib.hid ((hHeld.block _ (blk_lt GX.out)).trans GX.out)
    have GT := Lib.hid ((hHeld.block _ (blk_lt GT.out)).trans GT.out)
    have GY := Lib.hid ((hHeld.block _ (blk_lt GY.out)).trans GY.out)
    have GC := Lib.hid ((hHeld.block _ (blk_lt GC.out)).trans GC.out)
    have SB := Lib.hid (SB.out.below hHeld)
    have SXS := Lib.hid (SXS.out.below hHeld)
    refine wpAnyH_mono (S' := fun W => Below wkb3.heap.size wkb3 W) (fun _ h => hHeld.trans (h.mono hHeld.size)) _ _ _ _ ?_
    clear hS hb hHeld
    have hS : Below wkb3.heap.size wkb3 wkb3 := Below.refl _ _
    refine' wpAnyH_take (i := 28) ?h1x28b ?hsx28b ?hfx28b ?hrx28b ?hQx28b (Or.inl ⟨?hwx28b, ?hyx28b⟩) hS ?restx28b
    case h1x28b => (simp only [List.getElem?_toArray, List.getElem?_cons_succ, List.getElem?_cons_zero]; rfl)
    case hsx28b => kernel_rfl
    case hfx28b => kernel_rfl
    case hrx28b => kernel_rfl
    case hQx28b => exact fun _ _ _ h => h
    case hwx28b => rfl
    case hyx28b =>
      intro W hW
      have dd := (STS.out.below hW).str
      go_simp
      try with_reducible rfl
    simp only [Act.put, List.setIfInBounds_toArray, List.set_cons_succ, List.set_cons_zero]
    refine' wpAnyH_take (i := 29) ?h1x29b ?hsx29b ?hfx29b ?hrx29b ?hQx29b (Or.inl ⟨?hwx29b, ?hyx29b⟩) hS ?restx29b
    case h1x29b => (simp only [List.getElem?_toArray, List.getElem?_cons_succ, List.getElem?_cons_zero]; rfl)
    case hsx29b => kernel_rfl
    case hfx29b => kernel_rfl
    case hrx29b => kernel_rfl
    case hQx29b => exact fun _ _ _ h => h
    case hwx29b => rfl
    case hyx29b =>
      intro W hW
      have dd := ES.out
      go_simp
      try with_reducible rfl
    simp only [Act.put, List.setIfInBounds_toArray, List.set_cons_succ, List.set_cons_zero]
    refine' wpAnyH_take (i := 33) ?h1x33b ?hsx33b ?hfx33b ?hrx33b ?hQx33b (Or.inl ⟨?hwx33b, ?hyx33b⟩) hS ?restx33b
    case h1x33b => (simp only [List.getElem?_toArray, List.getElem?_cons_succ, List.getElem?_cons_zero]; rfl)
    case hsx33b => kernel_rfl
    case hfx33b => kernel_rfl
    case hrx33b => kernel_rfl
    case hQx33b => exact fun _ _ _ h => h
    case hwx33b => rfl
    case hyx33b =>
      intro W hW
      go_simp
      try with_reducible rfl
    simp only [Act.put, List.setIfInBounds_toArray, List.set_cons_succ, List.set_cons_zero]
    refine' wpAnyH_take (i := 34) ?h1x34b ?hsx34b ?hfx34b ?hrx34b ?hQx34b (Or.inl ⟨?hwx34b, ?hyx34b⟩) hS ?restx34b
    case h1x34b => (simp only [List.getElem?_toArray, List.getElem?_cons_succ, List.getElem?_cons_zero]; rfl)
    case hsx34b => kernel_rfl
    case hfx34b => kernel_rfl
    case hrx34b => kernel_rfl
    case hQx34b => exact fun _ _ _ h => h
    case hwx34b => rfl
    case hyx34b =>
      intro W hW
      go_simp
      try with_reducible rfl
    simp only [Act.put, List.setIfInBounds_toArray, List.set_cons_succ, List.set_cons_zero]
    refine' wpAnyH_take (i := 35) ?h1x35b ?hsx35b ?hfx35b ?hrx35b ?hQx35b (Or.inl ⟨?hwx35b, ?hyx35b⟩) hS ?restx35b
    case h1x35b => (simp only [List.getElem?_toArray, List.getElem?_cons_succ, List.getElem?_cons_zero]; rfl)
    case hsx35b => kernel_rfl
    case hfx35b => kernel_rfl
    case hrx35b => kernel_rfl
    case hQx35b => exact fun _ _ _ h => h
    case hwx35b => rfl
    case hyx35b =>
      intro W hW
      go_simp
      try with_reducible rfl
    simp only [Act.put, List.setIfInBounds_toArray, List.set_cons_succ, List.set_cons_zero]
    refine wpAnyH_done (by kernel_rfl) ?_ _
    go_wp2_with fail
    go_ret
    exact ⟨rfl, GB.out⟩
theorem walk (xs ts : List Int) (hx : Byt xs) (ht : Byt ts) (lx : xs.length = 104) (lt : ts.length = 104) (v : Value) (bs : List Int) (w : World) (h : Sees w v bs) :
    Calls Try.prog 9 #[.agg (bcells xs), .agg (bcells ts), v] w fun e w' => e = .returned (.bool true) ∧ Below w.heap.size w w' := by
  by_cases hl : bs.length ≤ 1000
  · exact walk_small xs ts hx ht lx lt v bs hl w h
  · obtain ⟨x, cap, rfl, h63⟩ := h.form
    exact walk_great _ _ x _ cap h63 (by omega) w

set_option maxRecDepth 100000 in
theorem lifted (os : Os) (started : os.Started) (H : Type) (enc : TypeId × Value → H) :
    ReturnsInHanded {} Try.checked os 9 .any (Rows.slotBackSpec.pre6 enc Try.prog Try.f9 Rows.slotBackRow.domain false) (Rows.slotBackSpec.post enc Try.prog Try.f9 false true false false) := by
  refine returnsInHanded_of_change (C := Try.checked) own started (by kernel_rfl) Try.func9
    (ChangeSpec.witness6 (enc := enc) (C := Try.checked) false ⟨#[], #[.agg (bcells (zs 104)), .agg (bcells (zs 104)), .slice none 0 0], []⟩ 8 (by kernel_rfl) (by kernel_rfl) (by kernel_rfl) (by kernel_rfl)) ?_
  intro W base args ds gs before hval0 hW hcnd _
  have hval : ∀ (j : Nat) t v, Try.f9.params[j]? = some t → args[j]? = some v → Value.okWide Try.prog W .any base t v := hval0
  have hW' := hW
  obtain ⟨p, q, hA0, hV, rfl, hfz, hnd⟩ := hW
  have hA : DataW.TrodAll enc Try.prog W 0 (fun _ => true) true Try.f9.params.toList args.toList ds p := hA0
  rw [Try.params9] at hA hval
  obtain ⟨v0, vs0, d0, ds0, p0, q0, hargs, rfl, rfl, h0, r0⟩ := trodAll_cons hA
  obtain ⟨v1, vs1, d1, ds1, p1, q1, rfl, rfl, rfl, h1, r1⟩ := trodAll_cons r0
  obtain ⟨v2, vs2, d2, ds2, p2, q2, rfl, rfl, rfl, h2, r2⟩ := trodAll_cons r1
  obtain ⟨rfl, rfl, rfl⟩ := trodAll_nil r2
  obtain rfl : args = #[v0, v1, v2] := by cases args; simp_all
  obtain ⟨rfl, rfl⟩ := trodVars_none hV
  obtain ⟨y0, hy0, ly0, rfl⟩ := open_slot (hval 0 61 v0 rfl rfl) h0
  obtain ⟨y1, hy1, ly1, rfl⟩ := open_slot (hval 1 61 v1 rfl rfl) h1
  obtain ⟨x2, s2⟩ := open_sees (hval 2 30 v2 rfl rfl) h2
  refine (walk y0 y1 hy0 hy1 ly0 ly1 v2 x2 W s2).mono fun e W' ⟨he, hb⟩ => ?_
  subst he
  exact ⟨_, rfl, law_post hW' rfl rfl rfl (by kernel_rfl) hb⟩

/-- The statement. -/
theorem proved : Rows.SlotBackSaid :=
  OpenClaim.holds_of_wide 9 Try.f9 rfl rfl rfl rfl rfl rfl rfl ⟨rfl, rfl, rfl, rfl, rfl⟩ rfl rfl rfl rfl rfl (by kernel_rfl) Try.func9 (by kernel_rfl)
    (of_decide_eq_true (by kernel_rfl)) (by unfold Func.isWrapper; first | (rw [if_pos (by decide +kernel)]; kernel_rfl) | (rw [if_neg (by decide +kernel)]; exact ⟨rfl, rfl⟩))
    (fun os started H enc _ => lifted os started H enc)
#print axioms proved
end Go.Proofs.Ytplffbpnjnbolaa.slotBack
