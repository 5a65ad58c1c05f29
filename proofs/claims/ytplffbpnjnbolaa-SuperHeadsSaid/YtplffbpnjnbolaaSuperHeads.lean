/-
  For every head and every slice of bytes the law SuperHeads of package casematelaw19 returns true, and they read afterwards as before: which heads may be, the bytes of each, the head that any bytes are, and the next one, is told. Condition: none.
-/
import Derived.Test.YtplffbpnjnbolaaSuK
namespace Go.Proofs.Ytplffbpnjnbolaa.superHeads
open Go.ChangeShapes Go.WideShapes Go.ChangeAt Go.RowKit
theorem walk_great (X : Array Value) (x : Option Addr) (l cap : Nat) (hl : l ≤ 9223372036854775807) (hg : 1000 < l) (w : World) : Calls Try.prog 3 #[.agg X, .slice x l cap] w fun e w' => e = .returned (.bool true) ∧ Below w.heap.size w w' := by
  have hg' : (1000 : Int) < l := by omega
  go_enter Try.func3, Try.ntmps3
  go_wp2_with fail
  refine (alive19 _).mono ?_
  rintro e w' ⟨rfl, hb⟩
  have HB : Hid (Below w.heap.size w w') := ((Below.refl _ _).alloc (Nat.le_refl _) _).trans (hb.mono (by simp))
  go_wp2_with fail
  go_ret
  exact ⟨rfl, HB.out⟩
set_option maxRecDepth 100000 in
set_option maxHeartbeats 16000000 in
theorem walk_ok_next (H : Hd) (hH : H.ok) (v : Value) (bs : List Int) (hl : bs.length ≤ 1000) (w : World) (h : Sees w v bs) (hr : hRe bs = 0) (hg : H.g ≠ 18446744073709551615) :
    Calls Try.prog 3 #[.agg (hcells H), v] w fun e w' => e = .returned (.bool true) ∧ Below w.heap.size w w' := by
  obtain ⟨x, cap, rfl, _⟩ := h.form
  have hl' : (bs.length : Int) ≤ 1000 := by omega
  have hz29 := z29
  have hz37 : ∀ w : World, (zeroValue 37).run Try.prog w = .ok (.agg Dz) w := z37
  have HOK := Lib.hid hH
  have WH : Hid (∀ W, Calls Try.prog 12 #[.agg (hcells H)] W (WriteHP W H)) := fun W => writeH H hH W
  have AH : Hid (∀ W, Calls Try.prog 14 #[.agg (hcells H)] W (AsHP W H)) := fun W => asH H hH W
  have DH : Hid (∀ x c W, Sees W (.slice x 32 c) H.z → Calls Try.prog 13 #[.agg (dcells H.g H.e H.h H.s (.slice x 32 c))] W (WriteHP W H)) := fun x c W hs => refWH H hH x c W hs
  have RB : Hid (∀ v W, Sees W v bs → Calls Try.prog 15 #[v] W fun e w' => e = .returned (.tuple #[.agg (hcells (hR bs)), .int .i64 0]) ∧ Below W.heap.size W w') := fun v W h => by
    have := readH v _ W h
    unfold ReadHP hRv at this
    rw [hr, if_pos rfl] at this
    exact this
  have RD : Hid (∀ v W, Sees W v bs → Calls Try.prog 16 #[v] W fun e w' => ∃ x c, e = .returned (.tuple #[.agg (dcells (hR bs).g (hR bs).e (hR bs).h (hR bs).s (.slice x 32 c)), .int .i64 0]) ∧ Sees w' (.slice x 32 c) (hR bs).z ∧ Below W.heap.size W w') := fun v W h =>
    (refRH v _ W h).mono fun e w' hh => by
      obtain ⟨⟨_, x, c, he, hs⟩ | ⟨e3, _⟩, hb⟩ := hh
      · exact ⟨x, c, he, hs, hb⟩
      · rw [hr] at e3; exact absurd e3 (by decide)
  have hPok : (hR bs).ok := by
    have := hRv_ok (xs := bs) h.1
    unfold hRv at this
    rw [if_pos hr] at this
    exact this
  have NX : Hid (∀ W, Calls Try.prog 17 #[.agg (hcells H)] W fun e w' => e = .returned (.tuple #[.agg (hcells { H with g := H.g + 1 }), .int .i64 0]) ∧ Below W.heap.size W w') := fun W => by
    have := next H hH W
    unfold NextP nxV nxE at this
    rw [if_neg hg, if_neg hg] at this
    exact this
  have IH := Lib.hid (i29 hH.2.2.2.2)
  have OH := Lib.hid (one_hcells H)
  have ZH : Hid ((hcells H0).size = (hcells H).size) := by show _ = _; rw [hcells_size (zs_len 32), hcells_size hH.2.2.2.2]
  have IP := Lib.hid (i29 hPok.2.2.2.2)
  have OP := Lib.hid (one_hcells (hR bs))
  have ZP : Hid ((hcells H0).size = (hcells (hR bs)).size) := (hcells_size (H := H0) (zs_len 32)).trans (hcells_size hPok.2.2.2.2).symm
  have hNz : ({ H with g := H.g + 1 } : Hd).z.length = 32 := hH.2.2.2.2
  have IN := Lib.hid (i29 hNz)
  have ON := Lib.hid (one_hcells { H with g := H.g + 1 })
  have ZN : Hid ((hcells H0).size = (hcells { H with g := H.g + 1 }).size) := (hcells_size (H := H0) (zs_len 32)).trans (hcells_size hNz).symm
  have I15 := Lib.hid (i29 (H := { H with g := H.g + 1 }) hH.2.2.2.2)
  have EN : Hid (∀ W, (Op.equalIn 10000 29 (.agg (hcells { H with g := H.g + 1 })) (.agg (hcells { H with g := H.g + 1 }))).run Try.prog W = .ok true W) := fun W => eq29 ({ H with g := H.g + 1 }) hH.2.2.2.1 hH.2.2.2.2 W
  have BH := Lib.hid bld29
  have EV : Hid (((strOfNums (hV H)).toList == (strOfNums (hV H)).toList) = true) := beq_self_eq_true _
  have PZ : Hid (Byt (hR bs).z ∧ (hR bs).z.length = 32) := hPok.2.2.2
  have EP : Hid (((strOfNums (hR bs).z).toList == (strOfNums (hR bs).z).toList) = true) := beq_self_eq_true _
  have E0 : Hid (∀ W, (Op.equalIn 10000 29 (.agg (hcells H0)) (.agg (hcells H0))).run Try.prog W = .ok true W) := fun W => eq29 _ (zs_byt _) (zs_len _) W
  have AL := Lib.hid alive19
  have HCH : Hid (∀ (W : World) (b : Nat), W.heap[b]? = some (.cells (hcells H) 29 (0, 0)) → W.cell? ⟨b, 0, none⟩ = some (.int .u64 H.g)) := fun W b h => hcell0 h
  have SB := Lib.hid h
  have HSET := Lib.hid (hset0 H (H.g + 1))
  have HG := Lib.hid hg
  have hgb := hH.1
  clear hg
  generalize hR bs = P at *
  clear hr hPok
  obtain ⟨W0, hW0⟩ : ∃ W0, W0 = w.alloc (.cells (hcells H) 29) := ⟨_, rfl⟩
  have B0 : Hid (Below w.heap.size w W0) := by rw [hW0]; exact (Below.refl _ _).alloc (Nat.le_refl _) _
  have GR : Hid (W0.heap[w.heap.size]? = some (.cells (hcells H) 29 (0, 0))) := by rw [hW0]; exact heap_alloc_new w _
  have SB := Lib.hid (SB.out.below B0.out)
  have HC0 : Hid (∀ W : World, W.heap[w.heap.size]? = some (.cells (hcells H) 29 (0, 0)) → W.cell? ⟨w.heap.size, 0, none⟩ = some (.int .u64 H.g)) := fun W h => hcell0 h
  have HW0 := Lib.hid hW0
  clear hW0 hH h hl
  generalize hcells H = CH at *
  generalize hcells { H with g := H.g + 1 } = CN at *
  obtain ⟨C15, hC15⟩ : ∃ C, C = CN := ⟨_, rfl⟩
  rw [← hC15] at HSET I15
  generalize hZG : hcells H0 = ZG at *
  go_enter Try.func3, Try.ntmps3
  go_wp2_with (refine wpList_load_row rfl 29 (.tmp 2) rfl w.heap.size rfl 29 CH (0, 0) _ (by rw [← HW0.out]; exact GR.out) Try.underlying29 rfl IH.out ?_)
  rw [← HW0.out]
  refine (WH.out _).mono ?_
  rintro e w1 ⟨u1, rfl, hs, hb⟩
  have B0 := Lib.hid (B0.out.trans (hb.mono B0.out.size))
  have GR := Lib.hid ((hb.block _ (blk_lt GR.out)).trans GR.out)
  have SB := Lib.hid (SB.out.below hb)
  have S1 := Lib.hid hs
  obtain ⟨ux1, uc1, rfl, _⟩ := hs.form
  clear hs
  clear hb
  go_wp2_with (refine wpList_load_row rfl 29 (.tmp 2) rfl w.heap.size rfl 29 CH (0, 0) _ GR.out Try.underlying29 rfl IH.out ?_)
  refine (AH.out _).mono ?_
  rintro e w2 ⟨xa, ca, rfl, hs, hb⟩
  have B0 := Lib.hid (B0.out.trans (hb.mono B0.out.size))
  have GR := Lib.hid ((hb.block _ (blk_lt GR.out)).trans GR.out)
  have SB := Lib.hid (SB.out.below hb)
  have S1 := Lib.hid (S1.out.below hb)
  have SA := Lib.hid hs
  clear hs
  clear hb
  go_wp2_with fail
  refine (DH.out _ _ _ SA.out).mono ?_
  rintro e w3 ⟨u2, rfl, hs, hb⟩
  have B0 := Lib.hid (B0.out.trans (hb.mono B0.out.size))
  have GR := Lib.hid ((hb.block _ (blk_lt GR.out)).trans GR.out)
  have SB := Lib.hid (SB.out.below hb)
  have S1 := Lib.hid (S1.out.below hb)
  have SA := Lib.hid (SA.out.below hb)
  have S2 := Lib.hid hs
  obtain ⟨ux2, uc2, rfl, _⟩ := hs.form
  clear hs
  clear hb
  go_wp2_with fail
  refine (RB.out _ _ SB.out).mono ?_
  rintro e w4 ⟨rfl, hb⟩
  have B0 := Lib.hid (B0.out.trans (hb.mono B0.out.size))
  have GR := Lib.hid ((hb.block _ (blk_lt GR.out)).trans GR.out)
  have SB := Lib.hid (SB.out.below hb)
  have S1 := Lib.hid (S1.out.below hb)
  have S2 := Lib.hid (S2.out.below hb)
  clear hb
  have Av4 := Lib.hid (heap_alloc_new w4 (.cells ZG 29))
  have Ev4 := Lib.hid (alloc_setRowT w4 ZG (hcells P) 29 _ rfl)
  have Q9 := Lib.hid (heap_alloc_new w4 (.cells (hcells P) 29))
  have halv4 : Below w4.heap.size w4 (w4.alloc (.cells (hcells P) 29)) := (Below.refl _ _).alloc (Nat.le_refl _) _
  have B0 := Lib.hid (B0.out.trans (halv4.mono B0.out.size))
  have GR := Lib.hid ((halv4.block _ (blk_lt GR.out)).trans GR.out)
  have SB := Lib.hid (SB.out.below halv4)
  have S1 := Lib.hid (S1.out.below halv4)
  have S2 := Lib.hid (S2.out.below halv4)
  clear halv4
  go_wp2_with (first
    | (refine wpList_store_row rfl 29 (.tmp 9) (.tmp 34) rfl w4.heap.size (hcells P) rfl rfl 29 ZG Av4.out IP.out ZP.out OP.out ?_; rw [Ev4.out]))
  clear Av4 Ev4
  generalize w4.alloc (.cells (hcells P) 29) = v4 at *
  generalize w4.heap.size = g9 at *
  refine (RD.out _ _ SB.out).mono ?_
  rintro e w5 ⟨xq, cq, rfl, hs, hb⟩
  have B0 := Lib.hid (B0.out.trans (hb.mono B0.out.size))
  have GR := Lib.hid ((hb.block _ (blk_lt GR.out)).trans GR.out)
  have SB := Lib.hid (SB.out.below hb)
  have S1 := Lib.hid (S1.out.below hb)
  have S2 := Lib.hid (S2.out.below hb)
  have Q9 := Lib.hid ((hb.block _ (blk_lt Q9.out)).trans Q9.out)
  have SQ := Lib.hid hs
  clear hs
  clear hb
  have ID := Lib.hid (i37 P.g P.e P.h P.s (.slice xq 32 cq))
  have OD := Lib.hid (one_dcells P.g P.e P.h P.s xq 32 cq)
  have ZD : Hid (Dz.size = (dcells P.g P.e P.h P.s (.slice xq 32 cq)).size) := rfl
  have Av5 := Lib.hid (heap_alloc_new w5 (.cells Dz 37))
  have Ev5 := Lib.hid (alloc_setRowT w5 Dz (dcells P.g P.e P.h P.s (.slice xq 32 cq)) 37 _ rfl)
  have Q11 := Lib.hid (heap_alloc_new w5 (.cells (dcells P.g P.e P.h P.s (.slice xq 32 cq)) 37))
  have halv5 : Below w5.heap.size w5 (w5.alloc (.cells (dcells P.g P.e P.h P.s (.slice xq 32 cq)) 37)) := (Below.refl _ _).alloc (Nat.le_refl _) _
  have B0 := Lib.hid (B0.out.trans (halv5.mono B0.out.size))
  have GR := Lib.hid ((halv5.block _ (blk_lt GR.out)).trans GR.out)
  have SB := Lib.hid (SB.out.below halv5)
  have S1 := Lib.hid (S1.out.below halv5)
  have S2 := Lib.hid (S2.out.below halv5)
  have Q9 := Lib.hid ((halv5.block _ (blk_lt Q9.out)).trans Q9.out)
  have SQ := Lib.hid (SQ.out.below halv5)
  clear halv5
  go_wp2_with (first
    | (refine wpList_store_row rfl 37 (.tmp 11) (.tmp 39) rfl w5.heap.size (dcells P.g P.e P.h P.s (.slice xq 32 cq)) rfl rfl 37 Dz Av5.out ID.out ZD.out OD.out ?_; rw [Ev5.out])
    | (refine wpList_load_row rfl 29 (.tmp 2) rfl w.heap.size rfl 29 CH (0, 0) _ GR.out Try.underlying29 rfl IH.out ?_))
  clear Av5 Ev5
  generalize w5.alloc (.cells (dcells P.g P.e P.h P.s (.slice xq 32 cq)) 37) = v5 at *
  generalize w5.heap.size = g11 at *
  refine (NX.out _).mono ?_
  rintro e w6 ⟨rfl, hb⟩
  have B0 := Lib.hid (B0.out.trans (hb.mono B0.out.size))
  have GR := Lib.hid ((hb.block _ (blk_lt GR.out)).trans GR.out)
  have SB := Lib.hid (SB.out.below hb)
  have S1 := Lib.hid (S1.out.below hb)
  have S2 := Lib.hid (S2.out.below hb)
  have Q9 := Lib.hid ((hb.block _ (blk_lt Q9.out)).trans Q9.out)
  have SQ := Lib.hid (SQ.out.below hb)
  have Q11 := Lib.hid ((hb.block _ (blk_lt Q11.out)).trans Q11.out)
  clear hb
  have Av6 := Lib.hid (heap_alloc_new w6 (.cells ZG 29))
  have Ev6 := Lib.hid (alloc_setRowT w6 ZG CN 29 _ rfl)
  have Q13 := Lib.hid (heap_alloc_new w6 (.cells CN 29))
  have halv6 : Below w6.heap.size w6 (w6.alloc (.cells CN 29)) := (Below.refl _ _).alloc (Nat.le_refl _) _
  have B0 := Lib.hid (B0.out.trans (halv6.mono B0.out.size))
  have GR := Lib.hid ((halv6.block _ (blk_lt GR.out)).trans GR.out)
  have SB := Lib.hid (SB.out.below halv6)
  have S1 := Lib.hid (S1.out.below halv6)
  have S2 := Lib.hid (S2.out.below halv6)
  have Q9 := Lib.hid ((halv6.block _ (blk_lt Q9.out)).trans Q9.out)
  have SQ := Lib.hid (SQ.out.below halv6)
  have Q11 := Lib.hid ((halv6.block _ (blk_lt Q11.out)).trans Q11.out)
  clear halv6
  obtain ⟨WZ, hWZ⟩ : ∃ WZ, WZ = ((w6.alloc (.cells CN 29)).alloc (.cells CH 29)).setRow (w6.alloc (.cells CN 29)).heap.size C15 := ⟨_, rfl⟩
  have Av := Lib.hid (heap_alloc_new (w6.alloc (.cells CN 29)) (.cells ZG 29))
  have Ev := Lib.hid (alloc_setRowT (w6.alloc (.cells CN 29)) ZG CH 29 _ rfl)
  have Gv := Lib.hid (heap_alloc_new (w6.alloc (.cells CN 29)) (.cells CH 29))
  have halZ : Below (w6.alloc (.cells CN 29)).heap.size (w6.alloc (.cells CN 29)) WZ := by
    rw [hWZ]; exact ((Below.refl _ _).alloc (Nat.le_refl _) _).trans (below_row _ _ (Nat.le_refl _))
  have halA : Below (w6.alloc (.cells CN 29)).heap.size (w6.alloc (.cells CN 29)) ((w6.alloc (.cells CN 29)).alloc (.cells CH 29)) := (Below.refl _ _).alloc (Nat.le_refl _) _
  have GR8 := Lib.hid GR.out
  have c0 := HC0.out _ ((halA.block _ (blk_lt GR.out)).trans GR.out)
  have c15 : ((w6.alloc (.cells CN 29)).alloc (.cells CH 29)).cell? ⟨(w6.alloc (.cells CN 29)).heap.size, 0, none⟩ = some (.int .u64 H.g) := HCH.out _ _ Gv.out
  have f15 : ((w6.alloc (.cells CN 29)).alloc (.cells CH 29)).frozen? ⟨(w6.alloc (.cells CN 29)).heap.size, 0, none⟩ = false := frozen_block Gv.out 0
  have st : ((w6.alloc (.cells CN 29)).alloc (.cells CH 29)).setCell ⟨(w6.alloc (.cells CN 29)).heap.size, 0, none⟩ (.int .u64 (H.g + 1)) = WZ := by rw [setCell_eq_setRow _ _ _ _ _ _ _ Gv.out, HSET.out, hWZ]
  have hwr : IntKind.u64.wrap (H.g + 1) = H.g + 1 := by
    rw [IntKind.wrap_u64]; have := HG.out; omega
  have st2 : ((w6.alloc (.cells CN 29)).alloc (.cells CH 29)).setCell ⟨(w6.alloc (.cells CN 29)).heap.size, 0, none⟩ (.int .u64 ((H.g + 1) % 18446744073709551616)) = WZ := by
    rw [show (H.g + 1) % 18446744073709551616 = H.g + 1 by have := HG.out; omega]; exact st
  have Q15 : Hid (WZ.heap[(w6.alloc (.cells CN 29)).heap.size]? = some (.cells C15 29 (0, 0))) := by show _ = _; rw [hWZ]; exact setRow_heap _ _ _ _ _ _ Gv.out
  have GRa := GR
  have B0 := Lib.hid (B0.out.trans (halZ.mono B0.out.size))
  have GR := Lib.hid ((halZ.block _ (blk_lt GR.out)).trans GR.out)
  have SB := Lib.hid (SB.out.below halZ)
  have S1 := Lib.hid (S1.out.below halZ)
  have S2 := Lib.hid (S2.out.below halZ)
  have Q9 := Lib.hid ((halZ.block _ (blk_lt Q9.out)).trans Q9.out)
  have SQ := Lib.hid (SQ.out.below halZ)
  have Q11 := Lib.hid ((halZ.block _ (blk_lt Q11.out)).trans Q11.out)
  have Q13 := Lib.hid ((halZ.block _ (blk_lt Q13.out)).trans Q13.out)
  have sx := S1.out.str
  have sy := S2.out.str
  have ev := EV.out
  clear hWZ halZ halA
  generalize hsz : (w6.alloc (.cells CN 29)).heap.size = g15 at *
  go_wp2_with (first
    | (refine wpList_store_row rfl 29 (.tmp 13) (.tmp 44) rfl w6.heap.size CN rfl rfl 29 ZG Av6.out IN.out ZN.out ON.out ?_; rw [Ev6.out])
    | (refine wpList_load_row rfl 29 (.tmp 2) rfl w.heap.size rfl 29 CH (0, 0) _ GRa.out Try.underlying29 rfl IH.out ?_)
    | (refine wpList_store_row rfl 29 (.tmp 15) (.tmp 46) rfl g15 CH rfl rfl 29 ZG Av.out IH.out ZH.out OH.out ?_; rw [Ev.out])
    | (refine wpList_load_met rfl 29 (.tmp 9) rfl g9 rfl 29 (hcells P) (0, 0) _ Q9.out Try.underlying29 ⟨_, rfl⟩ IP.out ?_)
    | (refine wpList_blank_met rfl 29 rfl (BH.out _) ?_))
  refine wp_region_held_drew (S := fun W => Below WZ.heap.size WZ W) (by kernel_rfl) (Below.refl _ _).drew (fun hS => ?_)
  refine' wpAnyH_take (i := 0) ?h1x0a ?hsx0a ?hfx0a ?hrx0a ?hQx0a (Or.inl ⟨?hwx0a, ?hyx0a⟩) hS ?restx0a
  case h1x0a => (simp only [List.getElem?_toArray, List.getElem?_cons_zero]; rfl)
  case hsx0a => kernel_rfl
  case hfx0a => kernel_rfl
  case hrx0a => kernel_rfl
  case hQx0a => exact fun _ _ _ h => h
  case hwx0a => rfl
  case hyx0a =>
    intro W hW
    go_simp
    try with_reducible rfl
  simp only [Act.put, List.setIfInBounds_toArray, List.set_cons_succ, List.set_cons_zero]
  refine' wpAnyH_take (i := 1) ?h1x1a ?hsx1a ?hfx1a ?hrx1a ?hQx1a (Or.inl ⟨?hwx1a, ?hyx1a⟩) hS ?restx1a
  case h1x1a => (simp only [List.getElem?_toArray, List.getElem?_cons_succ, List.getElem?_cons_zero]; rfl)
  case hsx1a => kernel_rfl
  case hfx1a => kernel_rfl
  case hrx1a => kernel_rfl
  case hQx1a => exact fun _ _ _ h => h
  case hwx1a => rfl
  case hyx1a =>
    intro W hW
    go_simp
    try with_reducible rfl
  simp only [Act.put, List.setIfInBounds_toArray, List.set_cons_succ, List.set_cons_zero]
  refine' wpAnyH_take (i := 2) ?h1x2a ?hsx2a ?hfx2a ?hrx2a ?hQx2a (Or.inl ⟨?hwx2a, ?hyx2a⟩) hS ?restx2a
  case h1x2a => (simp only [List.getElem?_toArray, List.getElem?_cons_succ, List.getElem?_cons_zero]; rfl)
  case hsx2a => kernel_rfl
  case hfx2a => kernel_rfl
  case hrx2a => kernel_rfl
  case hQx2a => exact fun _ _ _ h => h
  case hwx2a => rfl
  case hyx2a =>
    intro W hW
    go_simp
    try with_reducible rfl
  simp only [Act.put, List.setIfInBounds_toArray, List.set_cons_succ, List.set_cons_zero]
  refine' wpAnyH_take (i := 3) ?h1x3a ?hsx3a ?hfx3a ?hrx3a ?hQx3a (Or.inl ⟨?hwx3a, ?hyx3a⟩) hS ?restx3a
  case h1x3a => (simp only [List.getElem?_toArray, List.getElem?_cons_succ, List.getElem?_cons_zero]; rfl)
  case hsx3a => kernel_rfl
  case hfx3a => kernel_rfl
  case hrx3a => kernel_rfl
  case hQx3a => exact fun _ _ _ h => h
  case hwx3a => rfl
  case hyx3a =>
    intro W hW
    go_simp
    try with_reducible rfl
  simp only [Act.put, List.setIfInBounds_toArray, List.set_cons_succ, List.set_cons_zero]
  refine' wpAnyH_take (i := 4) ?h1x4a ?hsx4a ?hfx4a ?hrx4a ?hQx4a (Or.inl ⟨?hwx4a, ?hyx4a⟩) hS ?restx4a
  case h1x4a => (simp only [List.getElem?_toArray, List.getElem?_cons_succ, List.getElem?_cons_zero]; rfl)
  case hsx4a => kernel_rfl
  case hfx4a => kernel_rfl
  case hrx4a => kernel_rfl
  case hQx4a => exact fun _ _ _ h => h
  case hwx4a => rfl
  case hyx4a =>
    intro W hW
    have dd := hcell0 ((hW.block _ (blk_lt Q9.out)).trans Q9.out)
    go_simp
    try with_reducible rfl
  simp only [Act.put, List.setIfInBounds_toArray, List.set_cons_succ, List.set_cons_zero]
  refine' wpAnyH_take (i := 5) ?h1x5a ?hsx5a ?hfx5a ?hrx5a ?hQx5a (Or.inl ⟨?hwx5a, ?hyx5a⟩) hS ?restx5a
  case h1x5a => (simp only [List.getElem?_toArray, List.getElem?_cons_succ, List.getElem?_cons_zero]; rfl)
  case hsx5a => kernel_rfl
  case hfx5a => kernel_rfl
  case hrx5a => kernel_rfl
  case hQx5a => exact fun _ _ _ h => h
  case hwx5a => rfl
  case hyx5a =>
    intro W hW
    go_simp
    try with_reducible rfl
  simp only [Act.put, List.setIfInBounds_toArray, List.set_cons_succ, List.set_cons_zero]
  refine' wpAnyH_take (i := 6) ?h1x6a ?hsx6a ?hfx6a ?hrx6a ?hQx6a (Or.inl ⟨?hwx6a, ?hyx6a⟩) hS ?restx6a
  case h1x6a => (simp only [List.getElem?_toArray, List.getElem?_cons_succ, List.getElem?_cons_zero]; rfl)
  case hsx6a => kernel_rfl
  case hfx6a => kernel_rfl
  case hrx6a => kernel_rfl
  case hQx6a => exact fun _ _ _ h => h
  case hwx6a => rfl
  case hyx6a =>
    intro W hW
    have dd := (dcell ((hW.block _ (blk_lt Q11.out)).trans Q11.out)).1
    go_simp
    try with_reducible rfl
  simp only [Act.put, List.setIfInBounds_toArray, List.set_cons_succ, List.set_cons_zero]
  refine' wpAnyH_take (i := 7) ?h1x7a ?hsx7a ?hfx7a ?hrx7a ?hQx7a (Or.inl ⟨?hwx7a, ?hyx7a⟩) hS ?restx7a
  case h1x7a => (simp only [List.getElem?_toArray, List.getElem?_cons_succ, List.getElem?_cons_zero]; rfl)
  case hsx7a => kernel_rfl
  case hfx7a => kernel_rfl
  case hrx7a => kernel_rfl
  case hQx7a => exact fun _ _ _ h => h
  case hwx7a => rfl
  case hyx7a =>
    intro W hW
    go_simp
    try with_reducible rfl
  simp only [Act.put, List.setIfInBounds_toArray, List.set_cons_succ, List.set_cons_zero]
  refine' wpAnyH_take (i := 8) ?h1x8a ?hsx8a ?hfx8a ?hrx8a ?hQx8a (Or.inl ⟨?hwx8a, ?hyx8a⟩) hS ?restx8a
  case h1x8a => (simp only [List.getElem?_toArray, List.getElem?_cons_succ, List.getElem?_cons_zero]; rfl)
  case hsx8a => kernel_rfl
  case hfx8a => kernel_rfl
  case hrx8a => kernel_rfl
  case hQx8a => exact fun _ _ _ h => h
  case hwx8a => rfl
  case hyx8a =>
    intro W hW
    go_simp
    try with_reducible rfl
  simp only [Act.put, List.setIfInBounds_toArray, List.set_cons_succ, List.set_cons_zero]
  refine' wpAnyH_take (i := 9) ?h1x9a ?hsx9a ?hfx9a ?hrx9a ?hQx9a (Or.inl ⟨?hwx9a, ?hyx9a⟩) hS ?restx9a
  case h1x9a => (simp only [List.getElem?_toArray, List.getElem?_cons_succ, List.getElem?_cons_zero]; rfl)
  case hsx9a => kernel_rfl
  case hfx9a => kernel_rfl
  case hrx9a => kernel_rfl
  case hQx9a => exact fun _ _ _ h => h
  case hwx9a => rfl
  case hyx9a =>
    intro W hW
    go_simp
    try with_reducible rfl
  simp only [Act.put, List.setIfInBounds_toArray, List.set_cons_succ, List.set_cons_zero]
  refine' wpAnyH_take (i := 10) ?h1x10a ?hsx10a ?hfx10a ?hrx10a ?hQx10a (Or.inl ⟨?hwx10a, ?hyx10a⟩) hS ?restx10a
  case h1x10a => (simp only [List.getElem?_toArray, List.getElem?_cons_succ, List.getElem?_cons_zero]; rfl)
  case hsx10a => kernel_rfl
  case hfx10a => kernel_rfl
  case hrx10a => kernel_rfl
  case hQx10a => exact fun _ _ _ h => h
  case hwx10a => rfl
  case hyx10a =>
    intro W hW
    have dd := hcell1 ((hW.block _ (blk_lt Q9.out)).trans Q9.out)
    go_simp
    try with_reducible rfl
  simp only [Act.put, List.setIfInBounds_toArray, List.set_cons_succ, List.set_cons_zero]
  refine' wpAnyH_take (i := 11) ?h1x11a ?hsx11a ?hfx11a ?hrx11a ?hQx11a (Or.inl ⟨?hwx11a, ?hyx11a⟩) hS ?restx11a
  case h1x11a => (simp only [List.getElem?_toArray, List.getElem?_cons_succ, List.getElem?_cons_zero]; rfl)
  case hsx11a => kernel_rfl
  case hfx11a => kernel_rfl
  case hrx11a => kernel_rfl
  case hQx11a => exact fun _ _ _ h => h
  case hwx11a => rfl
  case hyx11a =>
    intro W hW
    go_simp
    try with_reducible rfl
  simp only [Act.put, List.setIfInBounds_toArray, List.set_cons_succ, List.set_cons_zero]
  refine' wpAnyH_take (i := 12) ?h1x12a ?hsx12a ?hfx12a ?hrx12a ?hQx12a (Or.inl ⟨?hwx12a, ?hyx12a⟩) hS ?restx12a
  case h1x12a => (simp only [List.getElem?_toArray, List.getElem?_cons_succ, List.getElem?_cons_zero]; rfl)
  case hsx12a => kernel_rfl
  case hfx12a => kernel_rfl
  case hrx12a => kernel_rfl
  case hQx12a => exact fun _ _ _ h => h
  case hwx12a => rfl
  case hyx12a =>
    intro W hW
    have dd := (dcell ((hW.block _ (blk_lt Q11.out)).trans Q11.out)).2.1
    go_simp
    try with_reducible rfl
  simp only [Act.put, List.setIfInBounds_toArray, List.set_cons_succ, List.set_cons_zero]
  refine' wpAnyH_take (i := 13) ?h1x13a ?hsx13a ?hfx13a ?hrx13a ?hQx13a (Or.inl ⟨?hwx13a, ?hyx13a⟩) hS ?restx13a
  case h1x13a => (simp only [List.getElem?_toArray, List.getElem?_cons_succ, List.getElem?_cons_zero]; rfl)
  case hsx13a => kernel_rfl
  case hfx13a => kernel_rfl
  case hrx13a => kernel_rfl
  case hQx13a => exact fun _ _ _ h => h
  case hwx13a => rfl
  case hyx13a =>
    intro W hW
    go_simp
    try with_reducible rfl
  simp only [Act.put, List.setIfInBounds_toArray, List.set_cons_succ, List.set_cons_zero]
  refine' wpAnyH_take (i := 14) ?h1x14a ?hsx14a ?hfx14a ?hrx14a ?hQx14a (Or.inl ⟨?hwx14a, ?hyx14a⟩) hS ?restx14a
  case h1x14a => (simp only [List.getElem?_toArray, List.getElem?_cons_succ, List.getElem?_cons_zero]; rfl)
  case hsx14a => kernel_rfl
  case hfx14a => kernel_rfl
  case hrx14a => kernel_rfl
  case hQx14a => exact fun _ _ _ h => h
  case hwx14a => rfl
  case hyx14a =>
    intro W hW
    go_simp
    try with_reducible rfl
  simp only [Act.put, List.setIfInBounds_toArray, List.set_cons_succ, List.set_cons_zero]
  refine' wpAnyH_take (i := 15) ?h1x15a ?hsx15a ?hfx15a ?hrx15a ?hQx15a (Or.inl ⟨?hwx15a, ?hyx15a⟩) hS ?restx15a
  case h1x15a => (simp only [List.getElem?_toArray, List.getElem?_cons_succ, List.getElem?_cons_zero]; rfl)
  case hsx15a => kernel_rfl
  case hfx15a => kernel_rfl
  case hrx15a => kernel_rfl
  case hQx15a => exact fun _ _ _ h => h
  case hwx15a => rfl
  case hyx15a =>
    intro W hW
    go_simp
    try with_reducible rfl
  simp only [Act.put, List.setIfInBounds_toArray, List.set_cons_succ, List.set_cons_zero]
  refine' wpAnyH_take (i := 16) ?h1x16a ?hsx16a ?hfx16a ?hrx16a ?hQx16a (Or.inl ⟨?hwx16a, ?hyx16a⟩) hS ?restx16a
  case h1x16a => (simp only [List.getElem?_toArray, List.getElem?_cons_succ, List.getElem?_cons_zero]; rfl)
  case hsx16a => kernel_rfl
  case hfx16a => kernel_rfl
  case hrx16a => kernel_rfl
  case hQx16a => exact fun _ _ _ h => h
  case hwx16a => rfl
  case hyx16a =>
    intro W hW
    go_simp
    try with_reducible rfl
  simp only [Act.put, List.setIfInBounds_toArray, List.set_cons_succ, List.set_cons_zero]
  refine' wpAnyH_take (i := 17) ?h1x17a ?hsx17a ?hfx17a ?hrx17a ?hQx17a (Or.inl ⟨?hwx17a, ?hyx17a⟩) hS ?restx17a
  case h1x17a => (simp only [List.getElem?_toArray, List.getElem?_cons_succ, List.getElem?_cons_zero]; rfl)
  case hsx17a => kernel_rfl
  case hfx17a => kernel_rfl
  case hrx17a => kernel_rfl
  case hQx17a => exact fun _ _ _ h => h
  case hwx17a => rfl
  case hyx17a =>
    intro W hW
    have dd := hcell2 ((hW.block _ (blk_lt Q9.out)).trans Q9.out)
    go_simp
    try with_reducible rfl
  simp only [Act.put, List.setIfInBounds_toArray, List.set_cons_succ, List.set_cons_zero]
  refine' wpAnyH_take (i := 18) ?h1x18a ?hsx18a ?hfx18a ?hrx18a ?hQx18a (Or.inl ⟨?hwx18a, ?hyx18a⟩) hS ?restx18a
  case h1x18a => (simp only [List.getElem?_toArray, List.getElem?_cons_succ, List.getElem?_cons_zero]; rfl)
  case hsx18a => kernel_rfl
  case hfx18a => kernel_rfl
  case hrx18a => kernel_rfl
  case hQx18a => exact fun _ _ _ h => h
  case hwx18a => rfl
  case hyx18a =>
    intro W hW
    go_simp
    try with_reducible rfl
  simp only [Act.put, List.setIfInBounds_toArray, List.set_cons_succ, List.set_cons_zero]
  refine' wpAnyH_take (i := 19) ?h1x19a ?hsx19a ?hfx19a ?hrx19a ?hQx19a (Or.inl ⟨?hwx19a, ?hyx19a⟩) hS ?restx19a
  case h1x19a => (simp only [List.getElem?_toArray, List.getElem?_cons_succ, List.getElem?_cons_zero]; rfl)
  case hsx19a => kernel_rfl
  case hfx19a => kernel_rfl
  case hrx19a => kernel_rfl
  case hQx19a => exact fun _ _ _ h => h
  case hwx19a => rfl
  case hyx19a =>
    intro W hW
    have dd := (dcell ((hW.block _ (blk_lt Q11.out)).trans Q11.out)).2.2.1
    go_simp
    try with_reducible rfl
  simp only [Act.put, List.setIfInBounds_toArray, List.set_cons_succ, List.set_cons_zero]
  refine' wpAnyH_take (i := 20) ?h1x20a ?hsx20a ?hfx20a ?hrx20a ?hQx20a (Or.inl ⟨?hwx20a, ?hyx20a⟩) hS ?restx20a
  case h1x20a => (simp only [List.getElem?_toArray, List.getElem?_cons_succ, List.getElem?_cons_zero]; rfl)
  case hsx20a => kernel_rfl
  case hfx20a => kernel_rfl
  case hrx20a => kernel_rfl
  case hQx20a => exact fun _ _ _ h => h
  case hwx20a => rfl
  case hyx20a =>
    intro W hW
    go_simp
    try with_reducible rfl
  simp only [Act.put, List.setIfInBounds_toArray, List.set_cons_succ, List.set_cons_zero]
  refine' wpAnyH_take (i := 21) ?h1x21a ?hsx21a ?hfx21a ?hrx21a ?hQx21a (Or.inl ⟨?hwx21a, ?hyx21a⟩) hS ?restx21a
  case h1x21a => (simp only [List.getElem?_toArray, List.getElem?_cons_succ, List.getElem?_cons_zero]; rfl)
  case hsx21a => kernel_rfl
  case hfx21a => kernel_rfl
  case hrx21a => kernel_rfl
  case hQx21a => exact fun _ _ _ h => h
  case hwx21a => rfl
  case hyx21a =>
    intro W hW
    go_simp
    try with_reducible rfl
  simp only [Act.put, List.setIfInBounds_toArray, List.set_cons_succ, List.set_cons_zero]
  refine' wpAnyH_take (i := 22) ?h1x22a ?hsx22a ?hfx22a ?hrx22a ?hQx22a (Or.inl ⟨?hwx22a, ?hyx22a⟩) hS ?restx22a
  case h1x22a => (simp only [List.getElem?_toArray, List.getElem?_cons_succ, List.getElem?_cons_zero]; rfl)
  case hsx22a => kernel_rfl
  case hfx22a => kernel_rfl
  case hrx22a => kernel_rfl
  case hQx22a => exact fun _ _ _ h => h
  case hwx22a => rfl
  case hyx22a =>
    intro W hW
    go_simp
    try with_reducible rfl
  simp only [Act.put, List.setIfInBounds_toArray, List.set_cons_succ, List.set_cons_zero]
  refine' wpAnyH_take (i := 23) ?h1x23a ?hsx23a ?hfx23a ?hrx23a ?hQx23a (Or.inl ⟨?hwx23a, ?hyx23a⟩) hS ?restx23a
  case h1x23a => (simp only [List.getElem?_toArray, List.getElem?_cons_succ, List.getElem?_cons_zero]; rfl)
  case hsx23a => kernel_rfl
  case hfx23a => kernel_rfl
  case hrx23a => kernel_rfl
  case hQx23a => exact fun _ _ _ h => h
  case hwx23a => rfl
  case hyx23a =>
    intro W hW
    go_simp
    try with_reducible rfl
  simp only [Act.put, List.setIfInBounds_toArray, List.set_cons_succ, List.set_cons_zero]
  refine' wpAnyH_take (i := 24) ?h1x24a ?hsx24a ?hfx24a ?hrx24a ?hQx24a (Or.inl ⟨?hwx24a, ?hyx24a⟩) hS ?restx24a
  case h1x24a => (simp only [List.getElem?_toArray, List.getElem?_cons_succ, List.getElem?_cons_zero]; rfl)
  case hsx24a => kernel_rfl
  case hfx24a => kernel_rfl
  case hrx24a => kernel_rfl
  case hQx24a => exact fun _ _ _ h => h
  case hwx24a => rfl
  case hyx24a =>
    intro W hW
    go_simp
    try with_reducible rfl
  simp only [Act.put, List.setIfInBounds_toArray, List.set_cons_succ, List.set_cons_zero]
  refine' wpAnyH_take (i := 25) ?h1x25a ?hsx25a ?hfx25a ?hrx25a ?hQx25a (Or.inl ⟨?hwx25a, ?hyx25a⟩) hS ?restx25a
  case h1x25a => (simp only [List.getElem?_toArray, List.getElem?_cons_succ, List.getElem?_cons_zero]; rfl)
  case hsx25a => kernel_rfl
  case hfx25a => kernel_rfl
  case hrx25a => kernel_rfl
  case hQx25a => exact fun _ _ _ h => h
  case hwx25a => rfl
  case hyx25a =>
    intro W hW
    have dd := hcell3 ((hW.block _ (blk_lt Q9.out)).trans Q9.out)
    go_simp
    try with_reducible rfl
  simp only [Act.put, List.setIfInBounds_toArray, List.set_cons_succ, List.set_cons_zero]
  refine' wpAnyH_take (i := 26) ?h1x26a ?hsx26a ?hfx26a ?hrx26a ?hQx26a (Or.inl ⟨?hwx26a, ?hyx26a⟩) hS ?restx26a
  case h1x26a => (simp only [List.getElem?_toArray, List.getElem?_cons_succ, List.getElem?_cons_zero]; rfl)
  case hsx26a => kernel_rfl
  case hfx26a => kernel_rfl
  case hrx26a => kernel_rfl
  case hQx26a => exact fun _ _ _ h => h
  case hwx26a => rfl
  case hyx26a =>
    intro W hW
    go_simp
    try with_reducible rfl
  simp only [Act.put, List.setIfInBounds_toArray, List.set_cons_succ, List.set_cons_zero]
  refine' wpAnyH_take (i := 27) ?h1x27a ?hsx27a ?hfx27a ?hrx27a ?hQx27a (Or.inl ⟨?hwx27a, ?hyx27a⟩) hS ?restx27a
  case h1x27a => (simp only [List.getElem?_toArray, List.getElem?_cons_succ, List.getElem?_cons_zero]; rfl)
  case hsx27a => kernel_rfl
  case hfx27a => kernel_rfl
  case hrx27a => kernel_rfl
  case hQx27a => exact fun _ _ _ h => h
  case hwx27a => rfl
  case hyx27a =>
    intro W hW
    have dd := (dcell ((hW.block _ (blk_lt Q11.out)).trans Q11.out)).2.2.2.1
    go_simp
    try with_reducible rfl
  simp only [Act.put, List.setIfInBounds_toArray, List.set_cons_succ, List.set_cons_zero]
  refine' wpAnyH_take (i := 28) ?h1x28a ?hsx28a ?hfx28a ?hrx28a ?hQx28a (Or.inl ⟨?hwx28a, ?hyx28a⟩) hS ?restx28a
  case h1x28a => (simp only [List.getElem?_toArray, List.getElem?_cons_succ, List.getElem?_cons_zero]; rfl)
  case hsx28a => kernel_rfl
  case hfx28a => kernel_rfl
  case hrx28a => kernel_rfl
  case hQx28a => exact fun _ _ _ h => h
  case hwx28a => rfl
  case hyx28a =>
    intro W hW
    go_simp
    try with_reducible rfl
  simp only [Act.put, List.setIfInBounds_toArray, List.set_cons_succ, List.set_cons_zero]
  refine' wpAnyH_take (i := 29) ?h1x29a ?hsx29a ?hfx29a ?hrx29a ?hQx29a (Or.inl ⟨?hwx29a, ?hyx29a⟩) hS ?restx29a
  case h1x29a => (simp only [List.getElem?_toArray, List.getElem?_cons_succ, List.getElem?_cons_zero]; rfl)
  case hsx29a => kernel_rfl
  case hfx29a => kernel_rfl
  case hrx29a => kernel_rfl
  case hQx29a => exact fun _ _ _ h => h
  case hwx29a => rfl
  case hyx29a =>
    intro W hW
    go_simp
    try with_reducible rfl
  simp only [Act.put, List.setIfInBounds_toArray, List.set_cons_succ, List.set_cons_zero]
  refine' wpAnyH_take (i := 30) ?h1x30a ?hsx30a ?hfx30a ?hrx30a ?hQx30a (Or.inl ⟨?hwx30a, ?hyx30a⟩) hS ?restx30a
  case h1x30a => (simp only [List.getElem?_toArray, List.getElem?_cons_succ, List.getElem?_cons_zero]; rfl)
  case hsx30a => kernel_rfl
  case hfx30a => kernel_rfl
  case hrx30a => kernel_rfl
  case hQx30a => exact fun _ _ _ h => h
  case hwx30a => rfl
  case hyx30a =>
    intro W hW
    go_simp
    try with_reducible rfl
  simp only [Act.put, List.setIfInBounds_toArray, List.set_cons_succ, List.set_cons_zero]
  refine' wpAnyH_take (i := 31) ?h1x31a ?hsx31a ?hfx31a ?hrx31a ?hQx31a (Or.inl ⟨?hwx31a, ?hyx31a⟩) hS ?restx31a
  case h1x31a => (simp only [List.getElem?_toArray, List.getElem?_cons_succ, List.getElem?_cons_zero]; rfl)
  case hsx31a => kernel_rfl
  case hfx31a => kernel_rfl
  case hrx31a => kernel_rfl
  case hQx31a => exact fun _ _ _ h => h
  case hwx31a => rfl
  case hyx31a =>
    intro W hW
    go_simp
    try with_reducible rfl
  simp only [Act.put, List.setIfInBounds_toArray, List.set_cons_succ, List.set_cons_zero]
  refine' wpAnyH_take (i := 32) ?h1x32a ?hsx32a ?hfx32a ?hrx32a ?hQx32a (Or.inl ⟨?hwx32a, ?hyx32a⟩) hS ?restx32a
  case h1x32a => (simp only [List.getElem?_toArray, List.getElem?_cons_succ, List.getElem?_cons_zero]; rfl)
  case hsx32a => kernel_rfl
  case hfx32a => kernel_rfl
  case hrx32a => kernel_rfl
  case hQx32a => exact fun _ _ _ h => h
  case hwx32a => rfl
  case hyx32a =>
    intro W hW
    go_simp
    try with_reducible rfl
  simp only [Act.put, List.setIfInBounds_toArray, List.set_cons_succ, List.set_cons_zero]
  refine' wpAnyH_take (i := 33) ?h1x33a ?hsx33a ?hfx33a ?hrx33a ?hQx33a (Or.inl ⟨?hwx33a, ?hyx33a⟩) hS ?restx33a
  case h1x33a => (simp only [List.getElem?_toArray, List.getElem?_cons_succ, List.getElem?_cons_zero]; rfl)
  case hsx33a => kernel_rfl
  case hfx33a => kernel_rfl
  case hrx33a => kernel_rfl
  case hQx33a => exact fun _ _ _ h => h
  case hwx33a => rfl
  case hyx33a =>
    intro W hW
    go_simp
    try with_reducible rfl
  simp only [Act.put, List.setIfInBounds_toArray, List.set_cons_succ, List.set_cons_zero]
  refine' wpAnyH_take (i := 34) ?h1x34a ?hsx34a ?hfx34a ?hrx34a ?hQx34a (Or.inl ⟨?hwx34a, ?hyx34a⟩) hS ?restx34a
  case h1x34a => (simp only [List.getElem?_toArray, List.getElem?_cons_succ, List.getElem?_cons_zero]; rfl)
  case hsx34a => kernel_rfl
  case hfx34a => kernel_rfl
  case hrx34a => kernel_rfl
  case hQx34a => exact fun _ _ _ h => h
  case hwx34a => rfl
  case hyx34a =>
    intro W hW
    have dd := (hsum PZ.out.1 PZ.out.2 ((hW.block _ (blk_lt Q9.out)).trans Q9.out)).str
    go_simp
    try with_reducible rfl
  simp only [Act.put, List.setIfInBounds_toArray, List.set_cons_succ, List.set_cons_zero]
  refine' wpAnyH_take (i := 35) ?h1x35a ?hsx35a ?hfx35a ?hrx35a ?hQx35a (Or.inl ⟨?hwx35a, ?hyx35a⟩) hS ?restx35a
  case h1x35a => (simp only [List.getElem?_toArray, List.getElem?_cons_succ, List.getElem?_cons_zero]; rfl)
  case hsx35a => kernel_rfl
  case hfx35a => kernel_rfl
  case hrx35a => kernel_rfl
  case hQx35a => exact fun _ _ _ h => h
  case hwx35a => rfl
  case hyx35a =>
    intro W hW
    go_simp
    try with_reducible rfl
  simp only [Act.put, List.setIfInBounds_toArray, List.set_cons_succ, List.set_cons_zero]
  refine' wpAnyH_take (i := 36) ?h1x36a ?hsx36a ?hfx36a ?hrx36a ?hQx36a (Or.inl ⟨?hwx36a, ?hyx36a⟩) hS ?restx36a
  case h1x36a => (simp only [List.getElem?_toArray, List.getElem?_cons_succ, List.getElem?_cons_zero]; rfl)
  case hsx36a => kernel_rfl
  case hfx36a => kernel_rfl
  case hrx36a => kernel_rfl
  case hQx36a => exact fun _ _ _ h => h
  case hwx36a => rfl
  case hyx36a =>
    intro W hW
    have dd := (dcell ((hW.block _ (blk_lt Q11.out)).trans Q11.out)).2.2.2.2
    go_simp
    try with_reducible rfl
  simp only [Act.put, List.setIfInBounds_toArray, List.set_cons_succ, List.set_cons_zero]
  refine' wpAnyH_take (i := 37) ?h1x37a ?hsx37a ?hfx37a ?hrx37a ?hQx37a (Or.inl ⟨?hwx37a, ?hyx37a⟩) hS ?restx37a
  case h1x37a => (simp only [List.getElem?_toArray, List.getElem?_cons_succ, List.getElem?_cons_zero]; rfl)
  case hsx37a => kernel_rfl
  case hfx37a => kernel_rfl
  case hrx37a => kernel_rfl
  case hQx37a => exact fun _ _ _ h => h
  case hwx37a => rfl
  case hyx37a =>
    intro W hW
    have dd := (SQ.out.below hW).str
    go_simp
    try with_reducible rfl
  simp only [Act.put, List.setIfInBounds_toArray, List.set_cons_succ, List.set_cons_zero]
  refine' wpAnyH_take (i := 38) ?h1x38a ?hsx38a ?hfx38a ?hrx38a ?hQx38a (Or.inl ⟨?hwx38a, ?hyx38a⟩) hS ?restx38a
  case h1x38a => (simp only [List.getElem?_toArray, List.getElem?_cons_succ, List.getElem?_cons_zero]; rfl)
  case hsx38a => kernel_rfl
  case hfx38a => kernel_rfl
  case hrx38a => kernel_rfl
  case hQx38a => exact fun _ _ _ h => h
  case hwx38a => rfl
  case hyx38a =>
    intro W hW
    have dd := EP.out
    go_simp
    try with_reducible rfl
  simp only [Act.put, List.setIfInBounds_toArray, List.set_cons_succ, List.set_cons_zero]
  refine' wpAnyH_take (i := 39) ?h1x39a ?hsx39a ?hfx39a ?hrx39a ?hQx39a (Or.inl ⟨?hwx39a, ?hyx39a⟩) hS ?restx39a
  case h1x39a => (simp only [List.getElem?_toArray, List.getElem?_cons_succ, List.getElem?_cons_zero]; rfl)
  case hsx39a => kernel_rfl
  case hfx39a => kernel_rfl
  case hrx39a => kernel_rfl
  case hQx39a => exact fun _ _ _ h => h
  case hwx39a => rfl
  case hyx39a =>
    intro W hW
    go_simp
    try with_reducible rfl
  simp only [Act.put, List.setIfInBounds_toArray, List.set_cons_succ, List.set_cons_zero]
  refine' wpAnyH_take (i := 40) ?h1x40a ?hsx40a ?hfx40a ?hrx40a ?hQx40a (Or.inl ⟨?hwx40a, ?hyx40a⟩) hS ?restx40a
  case h1x40a => (simp only [List.getElem?_toArray, List.getElem?_cons_succ, List.getElem?_cons_zero]; rfl)
  case hsx40a => kernel_rfl
  case hfx40a => kernel_rfl
  case hrx40a => kernel_rfl
  case hQx40a => exact fun _ _ _ h => h
  case hwx40a => rfl
  case hyx40a =>
    intro W hW
    go_simp
    try with_reducible rfl
  simp only [Act.put, List.setIfInBounds_toArray, List.set_cons_succ, List.set_cons_zero]
  refine wpAnyH_done (by kernel_rfl) ?_ _
  have B0 := Lib.hid (B0.out.trans (hS.mono B0.out.size))
  have GR := Lib.hid ((hS.block _ (blk_lt GR.out)).trans GR.out)
  have Q13 := Lib.hid ((hS.block _ (blk_lt Q13.out)).trans Q13.out)
  have Q15 := Lib.hid ((hS.block _ (blk_lt Q15.out)).trans Q15.out)
  have c0z := HC0.out _ GR.out
  have hgn : (H.g == 18446744073709551615) = false := by rw [beq_eq_false_iff_ne]; exact HG.out
  have en := EN.out
  clear hS
  go_wp2_with fail
  refine (AL.out _).mono ?_
  rintro e wl ⟨rfl, hb⟩
  have B0 := Lib.hid (B0.out.trans (hb.mono B0.out.size))
  have GR := Lib.hid ((hb.block _ (blk_lt GR.out)).trans GR.out)
  have Q13 := Lib.hid ((hb.block _ (blk_lt Q13.out)).trans Q13.out)
  have Q15 := Lib.hid ((hb.block _ (blk_lt Q15.out)).trans Q15.out)
  clear hb
  go_wp2_with (first
    | (refine wpList_load_met rfl 29 (.tmp 13) rfl w6.heap.size rfl 29 CN (0, 0) _ Q13.out Try.underlying29 ⟨_, rfl⟩ IN.out ?_)
    | (refine wpList_load_met rfl 29 (.tmp 15) rfl g15 rfl 29 C15 (0, 0) _ Q15.out Try.underlying29 ⟨_, rfl⟩ I15.out ?_))
  go_ret
  exact ⟨rfl, B0.out⟩
set_option maxRecDepth 100000 in
set_option maxHeartbeats 16000000 in
theorem walk_ok_max (H : Hd) (hH : H.ok) (v : Value) (bs : List Int) (hl : bs.length ≤ 1000) (w : World) (h : Sees w v bs) (hr : hRe bs = 0) (hg : H.g = 18446744073709551615) :
    Calls Try.prog 3 #[.agg (hcells H), v] w fun e w' => e = .returned (.bool true) ∧ Below w.heap.size w w' := by
  obtain ⟨x, cap, rfl, _⟩ := h.form
  have hl' : (bs.length : Int) ≤ 1000 := by omega
  have hz29 := z29
  have hz37 : ∀ w : World, (zeroValue 37).run Try.prog w = .ok (.agg Dz) w := z37
  have HOK := Lib.hid hH
  have WH : Hid (∀ W, Calls Try.prog 12 #[.agg (hcells H)] W (WriteHP W H)) := fun W => writeH H hH W
  have AH : Hid (∀ W, Calls Try.prog 14 #[.agg (hcells H)] W (AsHP W H)) := fun W => asH H hH W
  have DH : Hid (∀ x c W, Sees W (.slice x 32 c) H.z → Calls Try.prog 13 #[.agg (dcells H.g H.e H.h H.s (.slice x 32 c))] W (WriteHP W H)) := fun x c W hs => refWH H hH x c W hs
  have RB : Hid (∀ v W, Sees W v bs → Calls Try.prog 15 #[v] W fun e w' => e = .returned (.tuple #[.agg (hcells (hR bs)), .int .i64 0]) ∧ Below W.heap.size W w') := fun v W h => by
    have := readH v _ W h
    unfold ReadHP hRv at this
    rw [hr, if_pos rfl] at this
    exact this
  have RD : Hid (∀ v W, Sees W v bs → Calls Try.prog 16 #[v] W fun e w' => ∃ x c, e = .returned (.tuple #[.agg (dcells (hR bs).g (hR bs).e (hR bs).h (hR bs).s (.slice x 32 c)), .int .i64 0]) ∧ Sees w' (.slice x 32 c) (hR bs).z ∧ Below W.heap.size W w') := fun v W h =>
    (refRH v _ W h).mono fun e w' hh => by
      obtain ⟨⟨_, x, c, he, hs⟩ | ⟨e3, _⟩, hb⟩ := hh
      · exact ⟨x, c, he, hs, hb⟩
      · rw [hr] at e3; exact absurd e3 (by decide)
  have hPok : (hR bs).ok := by
    have := hRv_ok (xs := bs) h.1
    unfold hRv at this
    rw [if_pos hr] at this
    exact this
  have NX : Hid (∀ W, Calls Try.prog 17 #[.agg (hcells H)] W fun e w' => e = .returned (.tuple #[.agg (hcells H0), .int .i64 5]) ∧ Below W.heap.size W w') := fun W => by
    have := next H hH W
    unfold NextP nxV nxE at this
    rw [if_pos hg, if_pos hg] at this
    exact this
  have IH := Lib.hid (i29 hH.2.2.2.2)
  have OH := Lib.hid (one_hcells H)
  have ZH : Hid ((hcells H0).size = (hcells H).size) := by show _ = _; rw [hcells_size (zs_len 32), hcells_size hH.2.2.2.2]
  have IP := Lib.hid (i29 hPok.2.2.2.2)
  have OP := Lib.hid (one_hcells (hR bs))
  have ZP : Hid ((hcells H0).size = (hcells (hR bs)).size) := (hcells_size (H := H0) (zs_len 32)).trans (hcells_size hPok.2.2.2.2).symm
  have hNz : (H0 : Hd).z.length = 32 := zs_len 32
  have IN := Lib.hid (i29 hNz)
  have ON := Lib.hid (one_hcells H0)
  have ZN : Hid ((hcells H0).size = (hcells H0).size) := (hcells_size (H := H0) (zs_len 32)).trans (hcells_size hNz).symm
  have I15 := Lib.hid (i29 (H := { H with g := 0 }) hH.2.2.2.2)
  have EN : Hid (∀ W, (Op.equalIn 10000 29 (.agg (hcells H0)) (.agg (hcells H0))).run Try.prog W = .ok true W) := fun W => eq29 (H0) (zs_byt _) (zs_len _) W
  have BH := Lib.hid bld29
  have EV : Hid (((strOfNums (hV H)).toList == (strOfNums (hV H)).toList) = true) := beq_self_eq_true _
  have PZ : Hid (Byt (hR bs).z ∧ (hR bs).z.length = 32) := hPok.2.2.2
  have EP : Hid (((strOfNums (hR bs).z).toList == (strOfNums (hR bs).z).toList) = true) := beq_self_eq_true _
  have E0 : Hid (∀ W, (Op.equalIn 10000 29 (.agg (hcells H0)) (.agg (hcells H0))).run Try.prog W = .ok true W) := fun W => eq29 _ (zs_byt _) (zs_len _) W
  have AL := Lib.hid alive19
  have HCH : Hid (∀ (W : World) (b : Nat), W.heap[b]? = some (.cells (hcells H) 29 (0, 0)) → W.cell? ⟨b, 0, none⟩ = some (.int .u64 H.g)) := fun W b h => hcell0 h
  have SB := Lib.hid h
  have HSET := Lib.hid (hset0 H (0))
  have HG := Lib.hid hg
  have hgb := hH.1
  clear hg
  generalize hR bs = P at *
  clear hr hPok
  obtain ⟨W0, hW0⟩ : ∃ W0, W0 = w.alloc (.cells (hcells H) 29) := ⟨_, rfl⟩
  have B0 : Hid (Below w.heap.size w W0) := by rw [hW0]; exact (Below.refl _ _).alloc (Nat.le_refl _) _
  have GR : Hid (W0.heap[w.heap.size]? = some (.cells (hcells H) 29 (0, 0))) := by rw [hW0]; exact heap_alloc_new w _
  have SB := Lib.hid (SB.out.below B0.out)
  have HC0 : Hid (∀ W : World, W.heap[w.heap.size]? = some (.cells (hcells H) 29 (0, 0)) → W.cell? ⟨w.heap.size, 0, none⟩ = some (.int .u64 H.g)) := fun W h => hcell0 h
  have HW0 := Lib.hid hW0
  clear hW0 hH h hl
  generalize hcells H = CH at *
  generalize hcells H0 = CN at *
  generalize hcells { H with g := 0 } = C15 at *
  go_enter Try.func3, Try.ntmps3
  go_wp2_with (refine wpList_load_row rfl 29 (.tmp 2) rfl w.heap.size rfl 29 CH (0, 0) _ (by rw [← HW0.out]; exact GR.out) Try.underlying29 rfl IH.out ?_)
  rw [← HW0.out]
  refine (WH.out _).mono ?_
  rintro e w1 ⟨u1, rfl, hs, hb⟩
  have B0 := Lib.hid (B0.out.trans (hb.mono B0.out.size))
  have GR := Lib.hid ((hb.block _ (blk_lt GR.out)).trans GR.out)
  have SB := Lib.hid (SB.out.below hb)
  have S1 := Lib.hid hs
  obtain ⟨ux1, uc1, rfl, _⟩ := hs.form
  clear hs
  clear hb
  go_wp2_with (refine wpList_load_row rfl 29 (.tmp 2) rfl w.heap.size rfl 29 CH (0, 0) _ GR.out Try.underlying29 rfl IH.out ?_)
  refine (AH.out _).mono ?_
  rintro e w2 ⟨xa, ca, rfl, hs, hb⟩
  have B0 := Lib.hid (B0.out.trans (hb.mono B0.out.size))
  have GR := Lib.hid ((hb.block _ (blk_lt GR.out)).trans GR.out)
  have SB := Lib.hid (SB.out.below hb)
  have S1 := Lib.hid (S1.out.below hb)
  have SA := Lib.hid hs
  clear hs
  clear hb
  go_wp2_with fail
  refine (DH.out _ _ _ SA.out).mono ?_
  rintro e w3 ⟨u2, rfl, hs, hb⟩
  have B0 := Lib.hid (B0.out.trans (hb.mono B0.out.size))
  have GR := Lib.hid ((hb.block _ (blk_lt GR.out)).trans GR.out)
  have SB := Lib.hid (SB.out.below hb)
  have S1 := Lib.hid (S1.out.below hb)
  have SA := Lib.hid (SA.out.below hb)
  have S2 := Lib.hid hs
  obtain ⟨ux2, uc2, rfl, _⟩ := hs.form
  clear hs
  clear hb
  go_wp2_with fail
  refine (RB.out _ _ SB.out).mono ?_
  rintro e w4 ⟨rfl, hb⟩
  have B0 := Lib.hid (B0.out.trans (hb.mono B0.out.size))
  have GR := Lib.hid ((hb.block _ (blk_lt GR.out)).trans GR.out)
  have SB := Lib.hid (SB.out.below hb)
  have S1 := Lib.hid (S1.out.below hb)
  have S2 := Lib.hid (S2.out.below hb)
  clear hb
  have Av4 := Lib.hid (heap_alloc_new w4 (.cells CN 29))
  have Ev4 := Lib.hid (alloc_setRowT w4 CN (hcells P) 29 _ rfl)
  have Q9 := Lib.hid (heap_alloc_new w4 (.cells (hcells P) 29))
  have halv4 : Below w4.heap.size w4 (w4.alloc (.cells (hcells P) 29)) := (Below.refl _ _).alloc (Nat.le_refl _) _
  have B0 := Lib.hid (B0.out.trans (halv4.mono B0.out.size))
  have GR := Lib.hid ((halv4.block _ (blk_lt GR.out)).trans GR.out)
  have SB := Lib.hid (SB.out.below halv4)
  have S1 := Lib.hid (S1.out.below halv4)
  have S2 := Lib.hid (S2.out.below halv4)
  clear halv4
  go_wp2_with (first
    | (refine wpList_store_row rfl 29 (.tmp 9) (.tmp 34) rfl w4.heap.size (hcells P) rfl rfl 29 CN Av4.out IP.out ZP.out OP.out ?_; rw [Ev4.out]))
  clear Av4 Ev4
  generalize w4.alloc (.cells (hcells P) 29) = v4 at *
  generalize w4.heap.size = g9 at *
  refine (RD.out _ _ SB.out).mono ?_
  rintro e w5 ⟨xq, cq, rfl, hs, hb⟩
  have B0 := Lib.hid (B0.out.trans (hb.mono B0.out.size))
  have GR := Lib.hid ((hb.block _ (blk_lt GR.out)).trans GR.out)
  have SB := Lib.hid (SB.out.below hb)
  have S1 := Lib.hid (S1.out.below hb)
  have S2 := Lib.hid (S2.out.below hb)
  have Q9 := Lib.hid ((hb.block _ (blk_lt Q9.out)).trans Q9.out)
  have SQ := Lib.hid hs
  clear hs
  clear hb
  have ID := Lib.hid (i37 P.g P.e P.h P.s (.slice xq 32 cq))
  have OD := Lib.hid (one_dcells P.g P.e P.h P.s xq 32 cq)
  have ZD : Hid (Dz.size = (dcells P.g P.e P.h P.s (.slice xq 32 cq)).size) := rfl
  have Av5 := Lib.hid (heap_alloc_new w5 (.cells Dz 37))
  have Ev5 := Lib.hid (alloc_setRowT w5 Dz (dcells P.g P.e P.h P.s (.slice xq 32 cq)) 37 _ rfl)
  have Q11 := Lib.hid (heap_alloc_new w5 (.cells (dcells P.g P.e P.h P.s (.slice xq 32 cq)) 37))
  have halv5 : Below w5.heap.size w5 (w5.alloc (.cells (dcells P.g P.e P.h P.s (.slice xq 32 cq)) 37)) := (Below.refl _ _).alloc (Nat.le_refl _) _
  have B0 := Lib.hid (B0.out.trans (halv5.mono B0.out.size))
  have GR := Lib.hid ((halv5.block _ (blk_lt GR.out)).trans GR.out)
  have SB := Lib.hid (SB.out.below halv5)
  have S1 := Lib.hid (S1.out.below halv5)
  have S2 := Lib.hid (S2.out.below halv5)
  have Q9 := Lib.hid ((halv5.block _ (blk_lt Q9.out)).trans Q9.out)
  have SQ := Lib.hid (SQ.out.below halv5)
  clear halv5
  go_wp2_with (first
    | (refine wpList_store_row rfl 37 (.tmp 11) (.tmp 39) rfl w5.heap.size (dcells P.g P.e P.h P.s (.slice xq 32 cq)) rfl rfl 37 Dz Av5.out ID.out ZD.out OD.out ?_; rw [Ev5.out])
    | (refine wpList_load_row rfl 29 (.tmp 2) rfl w.heap.size rfl 29 CH (0, 0) _ GR.out Try.underlying29 rfl IH.out ?_))
  clear Av5 Ev5
  generalize w5.alloc (.cells (dcells P.g P.e P.h P.s (.slice xq 32 cq)) 37) = v5 at *
  generalize w5.heap.size = g11 at *
  refine (NX.out _).mono ?_
  rintro e w6 ⟨rfl, hb⟩
  have B0 := Lib.hid (B0.out.trans (hb.mono B0.out.size))
  have GR := Lib.hid ((hb.block _ (blk_lt GR.out)).trans GR.out)
  have SB := Lib.hid (SB.out.below hb)
  have S1 := Lib.hid (S1.out.below hb)
  have S2 := Lib.hid (S2.out.below hb)
  have Q9 := Lib.hid ((hb.block _ (blk_lt Q9.out)).trans Q9.out)
  have SQ := Lib.hid (SQ.out.below hb)
  have Q11 := Lib.hid ((hb.block _ (blk_lt Q11.out)).trans Q11.out)
  clear hb
  have Av6 := Lib.hid (heap_alloc_new w6 (.cells CN 29))
  have Ev6 := Lib.hid (alloc_setRowT w6 CN CN 29 _ rfl)
  have Q13 := Lib.hid (heap_alloc_new w6 (.cells CN 29))
  have halv6 : Below w6.heap.size w6 (w6.alloc (.cells CN 29)) := (Below.refl _ _).alloc (Nat.le_refl _) _
  have B0 := Lib.hid (B0.out.trans (halv6.mono B0.out.size))
  have GR := Lib.hid ((halv6.block _ (blk_lt GR.out)).trans GR.out)
  have SB := Lib.hid (SB.out.below halv6)
  have S1 := Lib.hid (S1.out.below halv6)
  have S2 := Lib.hid (S2.out.below halv6)
  have Q9 := Lib.hid ((halv6.block _ (blk_lt Q9.out)).trans Q9.out)
  have SQ := Lib.hid (SQ.out.below halv6)
  have Q11 := Lib.hid ((halv6.block _ (blk_lt Q11.out)).trans Q11.out)
  clear halv6
  obtain ⟨WZ, hWZ⟩ : ∃ WZ, WZ = ((w6.alloc (.cells CN 29)).alloc (.cells CH 29)).setRow (w6.alloc (.cells CN 29)).heap.size C15 := ⟨_, rfl⟩
  have Av := Lib.hid (heap_alloc_new (w6.alloc (.cells CN 29)) (.cells CN 29))
  have Ev := Lib.hid (alloc_setRowT (w6.alloc (.cells CN 29)) CN CH 29 _ rfl)
  have Gv := Lib.hid (heap_alloc_new (w6.alloc (.cells CN 29)) (.cells CH 29))
  have halZ : Below (w6.alloc (.cells CN 29)).heap.size (w6.alloc (.cells CN 29)) WZ := by
    rw [hWZ]; exact ((Below.refl _ _).alloc (Nat.le_refl _) _).trans (below_row _ _ (Nat.le_refl _))
  have halA : Below (w6.alloc (.cells CN 29)).heap.size (w6.alloc (.cells CN 29)) ((w6.alloc (.cells CN 29)).alloc (.cells CH 29)) := (Below.refl _ _).alloc (Nat.le_refl _) _
  have GR8 := Lib.hid GR.out
  have c0 := HC0.out _ ((halA.block _ (blk_lt GR.out)).trans GR.out)
  have c15 : ((w6.alloc (.cells CN 29)).alloc (.cells CH 29)).cell? ⟨(w6.alloc (.cells CN 29)).heap.size, 0, none⟩ = some (.int .u64 H.g) := HCH.out _ _ Gv.out
  have f15 : ((w6.alloc (.cells CN 29)).alloc (.cells CH 29)).frozen? ⟨(w6.alloc (.cells CN 29)).heap.size, 0, none⟩ = false := frozen_block Gv.out 0
  have st : ((w6.alloc (.cells CN 29)).alloc (.cells CH 29)).setCell ⟨(w6.alloc (.cells CN 29)).heap.size, 0, none⟩ (.int .u64 (0)) = WZ := by rw [setCell_eq_setRow _ _ _ _ _ _ _ Gv.out, HSET.out, hWZ]
  rw [HG.out] at c0
  have hwr : IntKind.u64.wrap 18446744073709551616 = 0 := by decide
  have Q15 : Hid (WZ.heap[(w6.alloc (.cells CN 29)).heap.size]? = some (.cells C15 29 (0, 0))) := by show _ = _; rw [hWZ]; exact setRow_heap _ _ _ _ _ _ Gv.out
  have GRa := GR
  have B0 := Lib.hid (B0.out.trans (halZ.mono B0.out.size))
  have GR := Lib.hid ((halZ.block _ (blk_lt GR.out)).trans GR.out)
  have SB := Lib.hid (SB.out.below halZ)
  have S1 := Lib.hid (S1.out.below halZ)
  have S2 := Lib.hid (S2.out.below halZ)
  have Q9 := Lib.hid ((halZ.block _ (blk_lt Q9.out)).trans Q9.out)
  have SQ := Lib.hid (SQ.out.below halZ)
  have Q11 := Lib.hid ((halZ.block _ (blk_lt Q11.out)).trans Q11.out)
  have Q13 := Lib.hid ((halZ.block _ (blk_lt Q13.out)).trans Q13.out)
  have sx := S1.out.str
  have sy := S2.out.str
  have ev := EV.out
  clear hWZ halZ halA
  generalize hsz : (w6.alloc (.cells CN 29)).heap.size = g15 at *
  go_wp2_with (first
    | (refine wpList_store_row rfl 29 (.tmp 13) (.tmp 44) rfl w6.heap.size CN rfl rfl 29 CN Av6.out IN.out rfl ON.out ?_; rw [Ev6.out])
    | (refine wpList_load_row rfl 29 (.tmp 2) rfl w.heap.size rfl 29 CH (0, 0) _ GRa.out Try.underlying29 rfl IH.out ?_)
    | (refine wpList_store_row rfl 29 (.tmp 15) (.tmp 46) rfl g15 CH rfl rfl 29 CN Av.out IH.out ZH.out OH.out ?_; rw [Ev.out])
    | (refine wpList_load_met rfl 29 (.tmp 9) rfl g9 rfl 29 (hcells P) (0, 0) _ Q9.out Try.underlying29 ⟨_, rfl⟩ IP.out ?_)
    | (refine wpList_blank_met rfl 29 rfl (BH.out _) ?_))
  refine wp_region_held_drew (S := fun W => Below WZ.heap.size WZ W) (by kernel_rfl) (Below.refl _ _).drew (fun hS => ?_)
  refine' wpAnyH_take (i := 0) ?h1x0a ?hsx0a ?hfx0a ?hrx0a ?hQx0a (Or.inl ⟨?hwx0a, ?hyx0a⟩) hS ?restx0a
  case h1x0a => (simp only [List.getElem?_toArray, List.getElem?_cons_zero]; rfl)
  case hsx0a => kernel_rfl
  case hfx0a => kernel_rfl
  case hrx0a => kernel_rfl
  case hQx0a => exact fun _ _ _ h => h
  case hwx0a => rfl
  case hyx0a =>
    intro W hW
    go_simp
    try with_reducible rfl
  simp only [Act.put, List.setIfInBounds_toArray, List.set_cons_succ, List.set_cons_zero]
  refine' wpAnyH_take (i := 1) ?h1x1a ?hsx1a ?hfx1a ?hrx1a ?hQx1a (Or.inl ⟨?hwx1a, ?hyx1a⟩) hS ?restx1a
  case h1x1a => (simp only [List.getElem?_toArray, List.getElem?_cons_succ, List.getElem?_cons_zero]; rfl)
  case hsx1a => kernel_rfl
  case hfx1a => kernel_rfl
  case hrx1a => kernel_rfl
  case hQx1a => exact fun _ _ _ h => h
  case hwx1a => rfl
  case hyx1a =>
    intro W hW
    go_simp
    try with_reducible rfl
  simp only [Act.put, List.setIfInBounds_toArray, List.set_cons_succ, List.set_cons_zero]
  refine' wpAnyH_take (i := 2) ?h1x2a ?hsx2a ?hfx2a ?hrx2a ?hQx2a (Or.inl ⟨?hwx2a, ?hyx2a⟩) hS ?restx2a
  case h1x2a => (simp only [List.getElem?_toArray, List.getElem?_cons_succ, List.getElem?_cons_zero]; rfl)
  case hsx2a => kernel_rfl
  case hfx2a => kernel_rfl
  case hrx2a => kernel_rfl
  case hQx2a => exact fun _ _ _ h => h
  case hwx2a => rfl
  case hyx2a =>
    intro W hW
    go_simp
    try with_reducible rfl
  simp only [Act.put, List.setIfInBounds_toArray, List.set_cons_succ, List.set_cons_zero]
  refine' wpAnyH_take (i := 3) ?h1x3a ?hsx3a ?hfx3a ?hrx3a ?hQx3a (Or.inl ⟨?hwx3a, ?hyx3a⟩) hS ?restx3a
  case h1x3a => (simp only [List.getElem?_toArray, List.getElem?_cons_succ, List.getElem?_cons_zero]; rfl)
  case hsx3a => kernel_rfl
  case hfx3a => kernel_rfl
  case hrx3a => kernel_rfl
  case hQx3a => exact fun _ _ _ h => h
  case hwx3a => rfl
  case hyx3a =>
    intro W hW
    go_simp
    try with_reducible rfl
  simp only [Act.put, List.setIfInBounds_toArray, List.set_cons_succ, List.set_cons_zero]
  refine' wpAnyH_take (i := 4) ?h1x4a ?hsx4a ?hfx4a ?hrx4a ?hQx4a (Or.inl ⟨?hwx4a, ?hyx4a⟩) hS ?restx4a
  case h1x4a => (simp only [List.getElem?_toArray, List.getElem?_cons_succ, List.getElem?_cons_zero]; rfl)
  case hsx4a => kernel_rfl
  case hfx4a => kernel_rfl
  case hrx4a => kernel_rfl
  case hQx4a => exact fun _ _ _ h => h
  case hwx4a => rfl
  case hyx4a =>
    intro W hW
    have dd := hcell0 ((hW.block _ (blk_lt Q9.out)).trans Q9.out)
    go_simp
    try with_reducible rfl
  simp only [Act.put, List.setIfInBounds_toArray, List.set_cons_succ, List.set_cons_zero]
  refine' wpAnyH_take (i := 5) ?h1x5a ?hsx5a ?hfx5a ?hrx5a ?hQx5a (Or.inl ⟨?hwx5a, ?hyx5a⟩) hS ?restx5a
  case h1x5a => (simp only [List.getElem?_toArray, List.getElem?_cons_succ, List.getElem?_cons_zero]; rfl)
  case hsx5a => kernel_rfl
  case hfx5a => kernel_rfl
  case hrx5a => kernel_rfl
  case hQx5a => exact fun _ _ _ h => h
  case hwx5a => rfl
  case hyx5a =>
    intro W hW
    go_simp
    try with_reducible rfl
  simp only [Act.put, List.setIfInBounds_toArray, List.set_cons_succ, List.set_cons_zero]
  refine' wpAnyH_take (i := 6) ?h1x6a ?hsx6a ?hfx6a ?hrx6a ?hQx6a (Or.inl ⟨?hwx6a, ?hyx6a⟩) hS ?restx6a
  case h1x6a => (simp only [List.getElem?_toArray, List.getElem?_cons_succ, List.getElem?_cons_zero]; rfl)
  case hsx6a => kernel_rfl
  case hfx6a => kernel_rfl
  case hrx6a => kernel_rfl
  case hQx6a => exact fun _ _ _ h => h
  case hwx6a => rfl
  case hyx6a =>
    intro W hW
    have dd := (dcell ((hW.block _ (blk_lt Q11.out)).trans Q11.out)).1
    go_simp
    try with_reducible rfl
  simp only [Act.put, List.setIfInBounds_toArray, List.set_cons_succ, List.set_cons_zero]
  refine' wpAnyH_take (i := 7) ?h1x7a ?hsx7a ?hfx7a ?hrx7a ?hQx7a (Or.inl ⟨?hwx7a, ?hyx7a⟩) hS ?restx7a
  case h1x7a => (simp only [List.getElem?_toArray, List.getElem?_cons_succ, List.getElem?_cons_zero]; rfl)
  case hsx7a => kernel_rfl
  case hfx7a => kernel_rfl
  case hrx7a => kernel_rfl
  case hQx7a => exact fun _ _ _ h => h
  case hwx7a => rfl
  case hyx7a =>
    intro W hW
    go_simp
    try with_reducible rfl
  simp only [Act.put, List.setIfInBounds_toArray, List.set_cons_succ, List.set_cons_zero]
  refine' wpAnyH_take (i := 8) ?h1x8a ?hsx8a ?hfx8a ?hrx8a ?hQx8a (Or.inl ⟨?hwx8a, ?hyx8a⟩) hS ?restx8a
  case h1x8a => (simp only [List.getElem?_toArray, List.getElem?_cons_succ, List.getElem?_cons_zero]; rfl)
  case hsx8a => kernel_rfl
  case hfx8a => kernel_rfl
  case hrx8a => kernel_rfl
  case hQx8a => exact fun _ _ _ h => h
  case hwx8a => rfl
  case hyx8a =>
    intro W hW
    go_simp
    try with_reducible rfl
  simp only [Act.put, List.setIfInBounds_toArray, List.set_cons_succ, List.set_cons_zero]
  refine' wpAnyH_take (i := 9) ?h1x9a ?hsx9a ?hfx9a ?hrx9a ?hQx9a (Or.inl ⟨?hwx9a, ?hyx9a⟩) hS ?restx9a
  case h1x9a => (simp only [List.getElem?_toArray, List.getElem?_cons_succ, List.getElem?_cons_zero]; rfl)
  case hsx9a => kernel_rfl
  case hfx9a => kernel_rfl
  case hrx9a => kernel_rfl
  case hQx9a => exact fun _ _ _ h => h
  case hwx9a => rfl
  case hyx9a =>
    intro W hW
    go_simp
    try with_reducible rfl
  simp only [Act.put, List.setIfInBounds_toArray, List.set_cons_succ, List.set_cons_zero]
  refine' wpAnyH_take (i := 10) ?h1x10a ?hsx10a ?hfx10a ?hrx10a ?hQx10a (Or.inl ⟨?hwx10a, ?hyx10a⟩) hS ?restx10a
  case h1x10a => (simp only [List.getElem?_toArray, List.getElem?_cons_succ, List.getElem?_cons_zero]; rfl)
  case hsx10a => kernel_rfl
  case hfx10a => kernel_rfl
  case hrx10a => kernel_rfl
  case hQx10a => exact fun _ _ _ h => h
  case hwx10a => rfl
  case hyx10a =>
    intro W hW
    have dd := hcell1 ((hW.block _ (blk_lt Q9.out)).trans Q9.out)
    go_simp
    try with_reducible rfl
  simp only [Act.put, List.setIfInBounds_toArray, List.set_cons_succ, List.set_cons_zero]
  refine' wpAnyH_take (i := 11) ?h1x11a ?hsx11a ?hfx11a ?hrx11a ?hQx11a (Or.inl ⟨?hwx11a, ?hyx11a⟩) hS ?restx11a
  case h1x11a => (simp only [List.getElem?_toArray, List.getElem?_cons_succ, List.getElem?_cons_zero]; rfl)
  case hsx11a => kernel_rfl
  case hfx11a => kernel_rfl
  case hrx11a => kernel_rfl
  case hQx11a => exact fun _ _ _ h => h
  case hwx11a => rfl
  case hyx11a =>
    intro W hW
    go_simp
    try with_reducible rfl
  simp only [Act.put, List.setIfInBounds_toArray, List.set_cons_succ, List.set_cons_zero]
  refine' wpAnyH_take (i := 12) ?h1x12a ?hsx12a ?hfx12a ?hrx12a ?hQx12a (Or.inl ⟨?hwx12a, ?hyx12a⟩) hS ?restx12a
  case h1x12a => (simp only [List.getElem?_toArray, List.getElem?_cons_succ, List.getElem?_cons_zero]; rfl)
  case hsx12a => kernel_rfl
  case hfx12a => kernel_rfl
  case hrx12a => kernel_rfl
  case hQx12a => exact fun _ _ _ h => h
  case hwx12a => rfl
  case hyx12a =>
    intro W hW
    have dd := (dcell ((hW.block _ (blk_lt Q11.out)).trans Q11.out)).2.1
    go_simp
    try with_reducible rfl
  simp only [Act.put, List.setIfInBounds_toArray, List.set_cons_succ, List.set_cons_zero]
  refine' wpAnyH_take (i := 13) ?h1x13a ?hsx13a ?hfx13a ?hrx13a ?hQx13a (Or.inl ⟨?hwx13a, ?hyx13a⟩) hS ?restx13a
  case h1x13a => (simp only [List.getElem?_toArray, List.getElem?_cons_succ, List.getElem?_cons_zero]; rfl)
  case hsx13a => kernel_rfl
  case hfx13a => kernel_rfl
  case hrx13a => kernel_rfl
  case hQx13a => exact fun _ _ _ h => h
  case hwx13a => rfl
  case hyx13a =>
    intro W hW
    go_simp
    try with_reducible rfl
  simp only [Act.put, List.setIfInBounds_toArray, List.set_cons_succ, List.set_cons_zero]
  refine' wpAnyH_take (i := 14) ?h1x14a ?hsx14a ?hfx14a ?hrx14a ?hQx14a (Or.inl ⟨?hwx14a, ?hyx14a⟩) hS ?restx14a
  case h1x14a => (simp only [List.getElem?_toArray, List.getElem?_cons_succ, List.getElem?_cons_zero]; rfl)
  case hsx14a => kernel_rfl
  case hfx14a => kernel_rfl
  case hrx14a => kernel_rfl
  case hQx14a => exact fun _ _ _ h => h
  case hwx14a => rfl
  case hyx14a =>
    intro W hW
    go_simp
    try with_reducible rfl
  simp only [Act.put, List.setIfInBounds_toArray, List.set_cons_succ, List.set_cons_zero]
  refine' wpAnyH_take (i := 15) ?h1x15a ?hsx15a ?hfx15a ?hrx15a ?hQx15a (Or.inl ⟨?hwx15a, ?hyx15a⟩) hS ?restx15a
  case h1x15a => (simp only [List.getElem?_toArray, List.getElem?_cons_succ, List.getElem?_cons_zero]; rfl)
  case hsx15a => kernel_rfl
  case hfx15a => kernel_rfl
  case hrx15a => kernel_rfl
  case hQx15a => exact fun _ _ _ h => h
  case hwx15a => rfl
  case hyx15a =>
    intro W hW
    go_simp
    try with_reducible rfl
  simp only [Act.put, List.setIfInBounds_toArray, List.set_cons_succ, List.set_cons_zero]
  refine' wpAnyH_take (i := 16) ?h1x16a ?hsx16a ?hfx16a ?hrx16a ?hQx16a (Or.inl ⟨?hwx16a, ?hyx16a⟩) hS ?restx16a
  case h1x16a => (simp only [List.getElem?_toArray, List.getElem?_cons_succ, List.getElem?_cons_zero]; rfl)
  case hsx16a => kernel_rfl
  case hfx16a => kernel_rfl
  case hrx16a => kernel_rfl
  case hQx16a => exact fun _ _ _ h => h
  case hwx16a => rfl
  case hyx16a =>
    intro W hW
    go_simp
    try with_reducible rfl
  simp only [Act.put, List.setIfInBounds_toArray, List.set_cons_succ, List.set_cons_zero]
  refine' wpAnyH_take (i := 17) ?h1x17a ?hsx17a ?hfx17a ?hrx17a ?hQx17a (Or.inl ⟨?hwx17a, ?hyx17a⟩) hS ?restx17a
  case h1x17a => (simp only [List.getElem?_toArray, List.getElem?_cons_succ, List.getElem?_cons_zero]; rfl)
  case hsx17a => kernel_rfl
  case hfx17a => kernel_rfl
  case hrx17a => kernel_rfl
  case hQx17a => exact fun _ _ _ h => h
  case hwx17a => rfl
  case hyx17a =>
    intro W hW
    have dd := hcell2 ((hW.block _ (blk_lt Q9.out)).trans Q9.out)
    go_simp
    try with_reducible rfl
  simp only [Act.put, List.setIfInBounds_toArray, List.set_cons_succ, List.set_cons_zero]
  refine' wpAnyH_take (i := 18) ?h1x18a ?hsx18a ?hfx18a ?hrx18a ?hQx18a (Or.inl ⟨?hwx18a, ?hyx18a⟩) hS ?restx18a
  case h1x18a => (simp only [List.getElem?_toArray, List.getElem?_cons_succ, List.getElem?_cons_zero]; rfl)
  case hsx18a => kernel_rfl
  case hfx18a => kernel_rfl
  case hrx18a => kernel_rfl
  case hQx18a => exact fun _ _ _ h => h
  case hwx18a => rfl
  case hyx18a =>
    intro W hW
    go_simp
    try with_reducible rfl
  simp only [Act.put, List.setIfInBounds_toArray, List.set_cons_succ, List.set_cons_zero]
  refine' wpAnyH_take (i := 19) ?h1x19a ?hsx19a ?hfx19a ?hrx19a ?hQx19a (Or.inl ⟨?hwx19a, ?hyx19a⟩) hS ?restx19a
  case h1x19a => (simp only [List.getElem?_toArray, List.getElem?_cons_succ, List.getElem?_cons_zero]; rfl)
  case hsx19a => kernel_rfl
  case hfx19a => kernel_rfl
  case hrx19a => kernel_rfl
  case hQx19a => exact fun _ _ _ h => h
  case hwx19a => rfl
  case hyx19a =>
    intro W hW
    have dd := (dcell ((hW.block _ (blk_lt Q11.out)).trans Q11.out)).2.2.1
    go_simp
    try with_reducible rfl
  simp only [Act.put, List.setIfInBounds_toArray, List.set_cons_succ, List.set_cons_zero]
  refine' wpAnyH_take (i := 20) ?h1x20a ?hsx20a ?hfx20a ?hrx20a ?hQx20a (Or.inl ⟨?hwx20a, ?hyx20a⟩) hS ?restx20a
  case h1x20a => (simp only [List.getElem?_toArray, List.getElem?_cons_succ, List.getElem?_cons_zero]; rfl)
  case hsx20a => kernel_rfl
  case hfx20a => kernel_rfl
  case hrx20a => kernel_rfl
  case hQx20a => exact fun _ _ _ h => h
  case hwx20a => rfl
  case hyx20a =>
    intro W hW
    go_simp
    try with_reducible rfl
  simp only [Act.put, List.setIfInBounds_toArray, List.set_cons_succ, List.set_cons_zero]
  refine' wpAnyH_take (i := 21) ?h1x21a ?hsx21a ?hfx21a ?hrx21a ?hQx21a (Or.inl ⟨?hwx21a, ?hyx21a⟩) hS ?restx21a
  case h1x21a => (simp only [List.getElem?_toArray, List.getElem?_cons_succ, List.getElem?_cons_zero]; rfl)
  case hsx21a => kernel_rfl
  case hfx21a => kernel_rfl
  case hrx21a => kernel_rfl
  case hQx21a => exact fun _ _ _ h => h
  case hwx21a => rfl
  case hyx21a =>
    intro W hW
    go_simp
    try with_reducible rfl
  simp only [Act.put, List.setIfInBounds_toArray, List.set_cons_succ, List.set_cons_zero]
  refine' wpAnyH_take (i := 22) ?h1x22a ?hsx22a ?hfx22a ?hrx22a ?hQx22a (Or.inl ⟨?hwx22a, ?hyx22a⟩) hS ?restx22a
  case h1x22a => (simp only [List.getElem?_toArray, List.getElem?_cons_succ, List.getElem?_cons_zero]; rfl)
  case hsx22a => kernel_rfl
  case hfx22a => kernel_rfl
  case hrx22a => kernel_rfl
  case hQx22a => exact fun _ _ _ h => h
  case hwx22a => rfl
  case hyx22a =>
    intro W hW
    go_simp
    try with_reducible rfl
  simp only [Act.put, List.setIfInBounds_toArray, List.set_cons_succ, List.set_cons_zero]
  refine' wpAnyH_take (i := 23) ?h1x23a ?hsx23a ?hfx23a ?hrx23a ?hQx23a (Or.inl ⟨?hwx23a, ?hyx23a⟩) hS ?restx23a
  case h1x23a => (simp only [List.getElem?_toArray, List.getElem?_cons_succ, List.getElem?_cons_zero]; rfl)
  case hsx23a => kernel_rfl
  case hfx23a => kernel_rfl
  case hrx23a => kernel_rfl
  case hQx23a => exact fun _ _ _ h => h
  case hwx23a => rfl
  case hyx23a =>
    intro W hW
    go_simp
    try with_reducible rfl
  simp only [Act.put, List.setIfInBounds_toArray, List.set_cons_succ, List.set_cons_zero]
  refine' wpAnyH_take (i := 24) ?h1x24a ?hsx24a ?hfx24a ?hrx24a ?hQx24a (Or.inl ⟨?hwx24a, ?hyx24a⟩) hS ?restx24a
  case h1x24a => (simp only [List.getElem?_toArray, List.getElem?_cons_succ, List.getElem?_cons_zero]; rfl)
  case hsx24a => kernel_rfl
  case hfx24a => kernel_rfl
  case hrx24a => kernel_rfl
  case hQx24a => exact fun _ _ _ h => h
  case hwx24a => rfl
  case hyx24a =>
    intro W hW
    go_simp
    try with_reducible rfl
  simp only [Act.put, List.setIfInBounds_toArray, List.set_cons_succ, List.set_cons_zero]
  refine' wpAnyH_take (i := 25) ?h1x25a ?hsx25a ?hfx25a ?hrx25a ?hQx25a (Or.inl ⟨?hwx25a, ?hyx25a⟩) hS ?restx25a
  case h1x25a => (simp only [List.getElem?_toArray, List.getElem?_cons_succ, List.getElem?_cons_zero]; rfl)
  case hsx25a => kernel_rfl
  case hfx25a => kernel_rfl
  case hrx25a => kernel_rfl
  case hQx25a => exact fun _ _ _ h => h
  case hwx25a => rfl
  case hyx25a =>
    intro W hW
    have dd := hcell3 ((hW.block _ (blk_lt Q9.out)).trans Q9.out)
    go_simp
    try with_reducible rfl
  simp only [Act.put, List.setIfInBounds_toArray, List.set_cons_succ, List.set_cons_zero]
  refine' wpAnyH_take (i := 26) ?h1x26a ?hsx26a ?hfx26a ?hrx26a ?hQx26a (Or.inl ⟨?hwx26a, ?hyx26a⟩) hS ?restx26a
  case h1x26a => (simp only [List.getElem?_toArray, List.getElem?_cons_succ, List.getElem?_cons_zero]; rfl)
  case hsx26a => kernel_rfl
  case hfx26a => kernel_rfl
  case hrx26a => kernel_rfl
  case hQx26a => exact fun _ _ _ h => h
  case hwx26a => rfl
  case hyx26a =>
    intro W hW
    go_simp
    try with_reducible rfl
  simp only [Act.put, List.setIfInBounds_toArray, List.set_cons_succ, List.set_cons_zero]
  refine' wpAnyH_take (i := 27) ?h1x27a ?hsx27a ?hfx27a ?hrx27a ?hQx27a (Or.inl ⟨?hwx27a, ?hyx27a⟩) hS ?restx27a
  case h1x27a => (simp only [List.getElem?_toArray, List.getElem?_cons_succ, List.getElem?_cons_zero]; rfl)
  case hsx27a => kernel_rfl
  case hfx27a => kernel_rfl
  case hrx27a => kernel_rfl
  case hQx27a => exact fun _ _ _ h => h
  case hwx27a => rfl
  case hyx27a =>
    intro W hW
    have dd := (dcell ((hW.block _ (blk_lt Q11.out)).trans Q11.out)).2.2.2.1
    go_simp
    try with_reducible rfl
  simp only [Act.put, List.setIfInBounds_toArray, List.set_cons_succ, List.set_cons_zero]
  refine' wpAnyH_take (i := 28) ?h1x28a ?hsx28a ?hfx28a ?hrx28a ?hQx28a (Or.inl ⟨?hwx28a, ?hyx28a⟩) hS ?restx28a
  case h1x28a => (simp only [List.getElem?_toArray, List.getElem?_cons_succ, List.getElem?_cons_zero]; rfl)
  case hsx28a => kernel_rfl
  case hfx28a => kernel_rfl
  case hrx28a => kernel_rfl
  case hQx28a => exact fun _ _ _ h => h
  case hwx28a => rfl
  case hyx28a =>
    intro W hW
    go_simp
    try with_reducible rfl
  simp only [Act.put, List.setIfInBounds_toArray, List.set_cons_succ, List.set_cons_zero]
  refine' wpAnyH_take (i := 29) ?h1x29a ?hsx29a ?hfx29a ?hrx29a ?hQx29a (Or.inl ⟨?hwx29a, ?hyx29a⟩) hS ?restx29a
  case h1x29a => (simp only [List.getElem?_toArray, List.getElem?_cons_succ, List.getElem?_cons_zero]; rfl)
  case hsx29a => kernel_rfl
  case hfx29a => kernel_rfl
  case hrx29a => kernel_rfl
  case hQx29a => exact fun _ _ _ h => h
  case hwx29a => rfl
  case hyx29a =>
    intro W hW
    go_simp
    try with_reducible rfl
  simp only [Act.put, List.setIfInBounds_toArray, List.set_cons_succ, List.set_cons_zero]
  refine' wpAnyH_take (i := 30) ?h1x30a ?hsx30a ?hfx30a ?hrx30a ?hQx30a (Or.inl ⟨?hwx30a, ?hyx30a⟩) hS ?restx30a
  case h1x30a => (simp only [List.getElem?_toArray, List.getElem?_cons_succ, List.getElem?_cons_zero]; rfl)
  case hsx30a => kernel_rfl
  case hfx30a => kernel_rfl
  case hrx30a => kernel_rfl
  case hQx30a => exact fun _ _ _ h => h
  case hwx30a => rfl
  case hyx30a =>
    intro W hW
    go_simp
    try with_reducible rfl
  simp only [Act.put, List.setIfInBounds_toArray, List.set_cons_succ, List.set_cons_zero]
  refine' wpAnyH_take (i := 31) ?h1x31a ?hsx31a ?hfx31a ?hrx31a ?hQx31a (Or.inl ⟨?hwx31a, ?hyx31a⟩) hS ?restx31a
  case h1x31a => (simp only [List.getElem?_toArray, List.getElem?_cons_succ, List.getElem?_cons_zero]; rfl)
  case hsx31a => kernel_rfl
  case hfx31a => kernel_rfl
  case hrx31a => kernel_rfl
  case hQx31a => exact fun _ _ _ h => h
  case hwx31a => rfl
  case hyx31a =>
    intro W hW
    go_simp
    try with_reducible rfl
  simp only [Act.put, List.setIfInBounds_toArray, List.set_cons_succ, List.set_cons_zero]
  refine' wpAnyH_take (i := 32) ?h1x32a ?hsx32a ?hfx32a ?hrx32a ?hQx32a (Or.inl ⟨?hwx32a, ?hyx32a⟩) hS ?restx32a
  case h1x32a => (simp only [List.getElem?_toArray, List.getElem?_cons_succ, List.getElem?_cons_zero]; rfl)
  case hsx32a => kernel_rfl
  case hfx32a => kernel_rfl
  case hrx32a => kernel_rfl
  case hQx32a => exact fun _ _ _ h => h
  case hwx32a => rfl
  case hyx32a =>
    intro W hW
    go_simp
    try with_reducible rfl
  simp only [Act.put, List.setIfInBounds_toArray, List.set_cons_succ, List.set_cons_zero]
  refine' wpAnyH_take (i := 33) ?h1x33a ?hsx33a ?hfx33a ?hrx33a ?hQx33a (Or.inl ⟨?hwx33a, ?hyx33a⟩) hS ?restx33a
  case h1x33a => (simp only [List.getElem?_toArray, List.getElem?_cons_succ, List.getElem?_cons_zero]; rfl)
  case hsx33a => kernel_rfl
  case hfx33a => kernel_rfl
  case hrx33a => kernel_rfl
  case hQx33a => exact fun _ _ _ h => h
  case hwx33a => rfl
  case hyx33a =>
    intro W hW
    go_simp
    try with_reducible rfl
  simp only [Act.put, List.setIfInBounds_toArray, List.set_cons_succ, List.set_cons_zero]
  refine' wpAnyH_take (i := 34) ?h1x34a ?hsx34a ?hfx34a ?hrx34a ?hQx34a (Or.inl ⟨?hwx34a, ?hyx34a⟩) hS ?restx34a
  case h1x34a => (simp only [List.getElem?_toArray, List.getElem?_cons_succ, List.getElem?_cons_zero]; rfl)
  case hsx34a => kernel_rfl
  case hfx34a => kernel_rfl
  case hrx34a => kernel_rfl
  case hQx34a => exact fun _ _ _ h => h
  case hwx34a => rfl
  case hyx34a =>
    intro W hW
    have dd := (hsum PZ.out.1 PZ.out.2 ((hW.block _ (blk_lt Q9.out)).trans Q9.out)).str
    go_simp
    try with_reducible rfl
  simp only [Act.put, List.setIfInBounds_toArray, List.set_cons_succ, List.set_cons_zero]
  refine' wpAnyH_take (i := 35) ?h1x35a ?hsx35a ?hfx35a ?hrx35a ?hQx35a (Or.inl ⟨?hwx35a, ?hyx35a⟩) hS ?restx35a
  case h1x35a => (simp only [List.getElem?_toArray, List.getElem?_cons_succ, List.getElem?_cons_zero]; rfl)
  case hsx35a => kernel_rfl
  case hfx35a => kernel_rfl
  case hrx35a => kernel_rfl
  case hQx35a => exact fun _ _ _ h => h
  case hwx35a => rfl
  case hyx35a =>
    intro W hW
    go_simp
    try with_reducible rfl
  simp only [Act.put, List.setIfInBounds_toArray, List.set_cons_succ, List.set_cons_zero]
  refine' wpAnyH_take (i := 36) ?h1x36a ?hsx36a ?hfx36a ?hrx36a ?hQx36a (Or.inl ⟨?hwx36a, ?hyx36a⟩) hS ?restx36a
  case h1x36a => (simp only [List.getElem?_toArray, List.getElem?_cons_succ, List.getElem?_cons_zero]; rfl)
  case hsx36a => kernel_rfl
  case hfx36a => kernel_rfl
  case hrx36a => kernel_rfl
  case hQx36a => exact fun _ _ _ h => h
  case hwx36a => rfl
  case hyx36a =>
    intro W hW
    have dd := (dcell ((hW.block _ (blk_lt Q11.out)).trans Q11.out)).2.2.2.2
    go_simp
    try with_reducible rfl
  simp only [Act.put, List.setIfInBounds_toArray, List.set_cons_succ, List.set_cons_zero]
  refine' wpAnyH_take (i := 37) ?h1x37a ?hsx37a ?hfx37a ?hrx37a ?hQx37a (Or.inl ⟨?hwx37a, ?hyx37a⟩) hS ?restx37a
  case h1x37a => (simp only [List.getElem?_toArray, List.getElem?_cons_succ, List.getElem?_cons_zero]; rfl)
  case hsx37a => kernel_rfl
  case hfx37a => kernel_rfl
  case hrx37a => kernel_rfl
  case hQx37a => exact fun _ _ _ h => h
  case hwx37a => rfl
  case hyx37a =>
    intro W hW
    have dd := (SQ.out.below hW).str
    go_simp
    try with_reducible rfl
  simp only [Act.put, List.setIfInBounds_toArray, List.set_cons_succ, List.set_cons_zero]
  refine' wpAnyH_take (i := 38) ?h1x38a ?hsx38a ?hfx38a ?hrx38a ?hQx38a (Or.inl ⟨?hwx38a, ?hyx38a⟩) hS ?restx38a
  case h1x38a => (simp only [List.getElem?_toArray, List.getElem?_cons_succ, List.getElem?_cons_zero]; rfl)
  case hsx38a => kernel_rfl
  case hfx38a => kernel_rfl
  case hrx38a => kernel_rfl
  case hQx38a => exact fun _ _ _ h => h
  case hwx38a => rfl
  case hyx38a =>
    intro W hW
    have dd := EP.out
    go_simp
    try with_reducible rfl
  simp only [Act.put, List.setIfInBounds_toArray, List.set_cons_succ, List.set_cons_zero]
  refine' wpAnyH_take (i := 39) ?h1x39a ?hsx39a ?hfx39a ?hrx39a ?hQx39a (Or.inl ⟨?hwx39a, ?hyx39a⟩) hS ?restx39a
  case h1x39a => (simp only [List.getElem?_toArray, List.getElem?_cons_succ, List.getElem?_cons_zero]; rfl)
  case hsx39a => kernel_rfl
  case hfx39a => kernel_rfl
  case hrx39a => kernel_rfl
  case hQx39a => exact fun _ _ _ h => h
  case hwx39a => rfl
  case hyx39a =>
    intro W hW
    go_simp
    try with_reducible rfl
  simp only [Act.put, List.setIfInBounds_toArray, List.set_cons_succ, List.set_cons_zero]
  refine' wpAnyH_take (i := 40) ?h1x40a ?hsx40a ?hfx40a ?hrx40a ?hQx40a (Or.inl ⟨?hwx40a, ?hyx40a⟩) hS ?restx40a
  case h1x40a => (simp only [List.getElem?_toArray, List.getElem?_cons_succ, List.getElem?_cons_zero]; rfl)
  case hsx40a => kernel_rfl
  case hfx40a => kernel_rfl
  case hrx40a => kernel_rfl
  case hQx40a => exact fun _ _ _ h => h
  case hwx40a => rfl
  case hyx40a =>
    intro W hW
    go_simp
    try with_reducible rfl
  simp only [Act.put, List.setIfInBounds_toArray, List.set_cons_succ, List.set_cons_zero]
  refine wpAnyH_done (by kernel_rfl) ?_ _
  have B0 := Lib.hid (B0.out.trans (hS.mono B0.out.size))
  have GR := Lib.hid ((hS.block _ (blk_lt GR.out)).trans GR.out)
  have Q13 := Lib.hid ((hS.block _ (blk_lt Q13.out)).trans Q13.out)
  have Q15 := Lib.hid ((hS.block _ (blk_lt Q15.out)).trans Q15.out)
  have c0z := HC0.out _ GR.out
  rw [HG.out] at c0z
  have en := EN.out
  clear hS
  go_wp2_with fail
  refine (AL.out _).mono ?_
  rintro e wl ⟨rfl, hb⟩
  have B0 := Lib.hid (B0.out.trans (hb.mono B0.out.size))
  have GR := Lib.hid ((hb.block _ (blk_lt GR.out)).trans GR.out)
  have Q13 := Lib.hid ((hb.block _ (blk_lt Q13.out)).trans Q13.out)
  have Q15 := Lib.hid ((hb.block _ (blk_lt Q15.out)).trans Q15.out)
  clear hb
  go_wp2_with (first
    | (refine wpList_load_met rfl 29 (.tmp 13) rfl w6.heap.size rfl 29 CN (0, 0) _ Q13.out Try.underlying29 ⟨_, rfl⟩ IN.out ?_)
    | (refine wpList_blank_met rfl 29 rfl (BH.out _) ?_))
  go_ret
  exact ⟨rfl, B0.out⟩
set_option maxRecDepth 100000 in
set_option maxHeartbeats 16000000 in
theorem walk_bad_next (H : Hd) (hH : H.ok) (v : Value) (bs : List Int) (hl : bs.length ≤ 1000) (w : World) (h : Sees w v bs) (hr : hRe bs = 3) (hg : H.g ≠ 18446744073709551615) :
    Calls Try.prog 3 #[.agg (hcells H), v] w fun e w' => e = .returned (.bool true) ∧ Below w.heap.size w w' := by
  obtain ⟨x, cap, rfl, _⟩ := h.form
  have hl' : (bs.length : Int) ≤ 1000 := by omega
  have hz29 := z29
  have hz37 : ∀ w : World, (zeroValue 37).run Try.prog w = .ok (.agg Dz) w := z37
  have HOK := Lib.hid hH
  have WH : Hid (∀ W, Calls Try.prog 12 #[.agg (hcells H)] W (WriteHP W H)) := fun W => writeH H hH W
  have AH : Hid (∀ W, Calls Try.prog 14 #[.agg (hcells H)] W (AsHP W H)) := fun W => asH H hH W
  have DH : Hid (∀ x c W, Sees W (.slice x 32 c) H.z → Calls Try.prog 13 #[.agg (dcells H.g H.e H.h H.s (.slice x 32 c))] W (WriteHP W H)) := fun x c W hs => refWH H hH x c W hs
  have RB : Hid (∀ v W, Sees W v bs → Calls Try.prog 15 #[v] W fun e w' => e = .returned (.tuple #[.agg (hcells H0), .int .i64 3]) ∧ Below W.heap.size W w') := fun v W h => by
    have := readH v _ W h
    unfold ReadHP hRv at this
    rw [hr, if_neg (by decide)] at this
    exact this
  have RD : Hid (∀ v W, Sees W v bs → Calls Try.prog 16 #[v] W fun e w' => e = .returned (.tuple #[.agg Dz, .int .i64 3]) ∧ Below W.heap.size W w') := fun v W h =>
    (refRH v _ W h).mono fun e w' hh => by
      obtain ⟨⟨e0, _⟩ | ⟨_, he⟩, hb⟩ := hh
      · rw [hr] at e0; exact absurd e0 (by decide)
      · exact ⟨he, hb⟩
  have hPok : H0.ok := H0_ok
  have NX : Hid (∀ W, Calls Try.prog 17 #[.agg (hcells H)] W fun e w' => e = .returned (.tuple #[.agg (hcells { H with g := H.g + 1 }), .int .i64 0]) ∧ Below W.heap.size W w') := fun W => by
    have := next H hH W
    unfold NextP nxV nxE at this
    rw [if_neg hg, if_neg hg] at this
    exact this
  have IH := Lib.hid (i29 hH.2.2.2.2)
  have OH := Lib.hid (one_hcells H)
  have ZH : Hid ((hcells H0).size = (hcells H).size) := by show _ = _; rw [hcells_size (zs_len 32), hcells_size hH.2.2.2.2]
  have IP := Lib.hid (i29 hPok.2.2.2.2)
  have OP := Lib.hid (one_hcells H0)
  have ZP : Hid ((hcells H0).size = (hcells H0).size) := (hcells_size (H := H0) (zs_len 32)).trans (hcells_size hPok.2.2.2.2).symm
  have hNz : ({ H with g := H.g + 1 } : Hd).z.length = 32 := hH.2.2.2.2
  have IN := Lib.hid (i29 hNz)
  have ON := Lib.hid (one_hcells { H with g := H.g + 1 })
  have ZN : Hid ((hcells H0).size = (hcells { H with g := H.g + 1 }).size) := (hcells_size (H := H0) (zs_len 32)).trans (hcells_size hNz).symm
  have I15 := Lib.hid (i29 (H := { H with g := H.g + 1 }) hH.2.2.2.2)
  have EN : Hid (∀ W, (Op.equalIn 10000 29 (.agg (hcells { H with g := H.g + 1 })) (.agg (hcells { H with g := H.g + 1 }))).run Try.prog W = .ok true W) := fun W => eq29 ({ H with g := H.g + 1 }) hH.2.2.2.1 hH.2.2.2.2 W
  have BH := Lib.hid bld29
  have EV : Hid (((strOfNums (hV H)).toList == (strOfNums (hV H)).toList) = true) := beq_self_eq_true _
  have PZ : Hid (Byt H0.z ∧ H0.z.length = 32) := hPok.2.2.2
  have EP : Hid (((strOfNums H0.z).toList == (strOfNums H0.z).toList) = true) := beq_self_eq_true _
  have E0 : Hid (∀ W, (Op.equalIn 10000 29 (.agg (hcells H0)) (.agg (hcells H0))).run Try.prog W = .ok true W) := fun W => eq29 _ (zs_byt _) (zs_len _) W
  have AL := Lib.hid alive19
  have HCH : Hid (∀ (W : World) (b : Nat), W.heap[b]? = some (.cells (hcells H) 29 (0, 0)) → W.cell? ⟨b, 0, none⟩ = some (.int .u64 H.g)) := fun W b h => hcell0 h
  have SB := Lib.hid h
  have HSET := Lib.hid (hset0 H (H.g + 1))
  have HG := Lib.hid hg
  have hgb := hH.1
  clear hg
  clear hr hPok
  obtain ⟨W0, hW0⟩ : ∃ W0, W0 = w.alloc (.cells (hcells H) 29) := ⟨_, rfl⟩
  have B0 : Hid (Below w.heap.size w W0) := by rw [hW0]; exact (Below.refl _ _).alloc (Nat.le_refl _) _
  have GR : Hid (W0.heap[w.heap.size]? = some (.cells (hcells H) 29 (0, 0))) := by rw [hW0]; exact heap_alloc_new w _
  have SB := Lib.hid (SB.out.below B0.out)
  have HC0 : Hid (∀ W : World, W.heap[w.heap.size]? = some (.cells (hcells H) 29 (0, 0)) → W.cell? ⟨w.heap.size, 0, none⟩ = some (.int .u64 H.g)) := fun W h => hcell0 h
  have HW0 := Lib.hid hW0
  clear hW0 hH h hl
  generalize hcells H = CH at *
  generalize hcells { H with g := H.g + 1 } = CN at *
  obtain ⟨C15, hC15⟩ : ∃ C, C = CN := ⟨_, rfl⟩
  rw [← hC15] at HSET I15
  generalize hZG : hcells H0 = ZG at *
  go_enter Try.func3, Try.ntmps3
  go_wp2_with (refine wpList_load_row rfl 29 (.tmp 2) rfl w.heap.size rfl 29 CH (0, 0) _ (by rw [← HW0.out]; exact GR.out) Try.underlying29 rfl IH.out ?_)
  rw [← HW0.out]
  refine (WH.out _).mono ?_
  rintro e w1 ⟨u1, rfl, hs, hb⟩
  have B0 := Lib.hid (B0.out.trans (hb.mono B0.out.size))
  have GR := Lib.hid ((hb.block _ (blk_lt GR.out)).trans GR.out)
  have SB := Lib.hid (SB.out.below hb)
  have S1 := Lib.hid hs
  obtain ⟨ux1, uc1, rfl, _⟩ := hs.form
  clear hs
  clear hb
  go_wp2_with (refine wpList_load_row rfl 29 (.tmp 2) rfl w.heap.size rfl 29 CH (0, 0) _ GR.out Try.underlying29 rfl IH.out ?_)
  refine (AH.out _).mono ?_
  rintro e w2 ⟨xa, ca, rfl, hs, hb⟩
  have B0 := Lib.hid (B0.out.trans (hb.mono B0.out.size))
  have GR := Lib.hid ((hb.block _ (blk_lt GR.out)).trans GR.out)
  have SB := Lib.hid (SB.out.below hb)
  have S1 := Lib.hid (S1.out.below hb)
  have SA := Lib.hid hs
  clear hs
  clear hb
  go_wp2_with fail
  refine (DH.out _ _ _ SA.out).mono ?_
  rintro e w3 ⟨u2, rfl, hs, hb⟩
  have B0 := Lib.hid (B0.out.trans (hb.mono B0.out.size))
  have GR := Lib.hid ((hb.block _ (blk_lt GR.out)).trans GR.out)
  have SB := Lib.hid (SB.out.below hb)
  have S1 := Lib.hid (S1.out.below hb)
  have SA := Lib.hid (SA.out.below hb)
  have S2 := Lib.hid hs
  obtain ⟨ux2, uc2, rfl, _⟩ := hs.form
  clear hs
  clear hb
  go_wp2_with fail
  refine (RB.out _ _ SB.out).mono ?_
  rintro e w4 ⟨rfl, hb⟩
  have B0 := Lib.hid (B0.out.trans (hb.mono B0.out.size))
  have GR := Lib.hid ((hb.block _ (blk_lt GR.out)).trans GR.out)
  have SB := Lib.hid (SB.out.below hb)
  have S1 := Lib.hid (S1.out.below hb)
  have S2 := Lib.hid (S2.out.below hb)
  clear hb
  have Av4 := Lib.hid (heap_alloc_new w4 (.cells ZG 29))
  have Ev4 := Lib.hid (alloc_setRowT w4 ZG ZG 29 _ rfl)
  have Q9 := Lib.hid (heap_alloc_new w4 (.cells ZG 29))
  have halv4 : Below w4.heap.size w4 (w4.alloc (.cells ZG 29)) := (Below.refl _ _).alloc (Nat.le_refl _) _
  have B0 := Lib.hid (B0.out.trans (halv4.mono B0.out.size))
  have GR := Lib.hid ((halv4.block _ (blk_lt GR.out)).trans GR.out)
  have SB := Lib.hid (SB.out.below halv4)
  have S1 := Lib.hid (S1.out.below halv4)
  have S2 := Lib.hid (S2.out.below halv4)
  clear halv4
  go_wp2_with (first
    | (refine wpList_store_row rfl 29 (.tmp 9) (.tmp 34) rfl w4.heap.size ZG rfl rfl 29 ZG Av4.out IP.out rfl OP.out ?_; rw [Ev4.out]))
  clear Av4 Ev4
  generalize w4.alloc (.cells ZG 29) = v4 at *
  generalize w4.heap.size = g9 at *
  refine (RD.out _ _ SB.out).mono ?_
  rintro e w5 ⟨rfl, hb⟩
  have B0 := Lib.hid (B0.out.trans (hb.mono B0.out.size))
  have GR := Lib.hid ((hb.block _ (blk_lt GR.out)).trans GR.out)
  have SB := Lib.hid (SB.out.below hb)
  have S1 := Lib.hid (S1.out.below hb)
  have S2 := Lib.hid (S2.out.below hb)
  have Q9 := Lib.hid ((hb.block _ (blk_lt Q9.out)).trans Q9.out)
  clear hb
  have ID : Hid ((Try.prog.info? 37).map (·.size) = some Dz.size) := i37 0 0 false 0 (.slice none 0 0)
  have OD : Hid (Dz.all (·.oneCell') = true) := one_dcells 0 0 false 0 none 0 0
  have ZD : Hid (Dz.size = Dz.size) := rfl
  have Av5 := Lib.hid (heap_alloc_new w5 (.cells Dz 37))
  have Ev5 := Lib.hid (alloc_setRowT w5 Dz Dz 37 _ rfl)
  have Q11 := Lib.hid (heap_alloc_new w5 (.cells Dz 37))
  have halv5 : Below w5.heap.size w5 (w5.alloc (.cells Dz 37)) := (Below.refl _ _).alloc (Nat.le_refl _) _
  have B0 := Lib.hid (B0.out.trans (halv5.mono B0.out.size))
  have GR := Lib.hid ((halv5.block _ (blk_lt GR.out)).trans GR.out)
  have SB := Lib.hid (SB.out.below halv5)
  have S1 := Lib.hid (S1.out.below halv5)
  have S2 := Lib.hid (S2.out.below halv5)
  have Q9 := Lib.hid ((halv5.block _ (blk_lt Q9.out)).trans Q9.out)
  clear halv5
  go_wp2_with (first
    | (refine wpList_store_row rfl 37 (.tmp 11) (.tmp 39) rfl w5.heap.size Dz rfl rfl 37 Dz Av5.out ID.out rfl OD.out ?_; rw [Ev5.out])
    | (refine wpList_load_row rfl 29 (.tmp 2) rfl w.heap.size rfl 29 CH (0, 0) _ GR.out Try.underlying29 rfl IH.out ?_))
  clear Av5 Ev5
  generalize w5.alloc (.cells Dz 37) = v5 at *
  generalize w5.heap.size = g11 at *
  refine (NX.out _).mono ?_
  rintro e w6 ⟨rfl, hb⟩
  have B0 := Lib.hid (B0.out.trans (hb.mono B0.out.size))
  have GR := Lib.hid ((hb.block _ (blk_lt GR.out)).trans GR.out)
  have SB := Lib.hid (SB.out.below hb)
  have S1 := Lib.hid (S1.out.below hb)
  have S2 := Lib.hid (S2.out.below hb)
  have Q9 := Lib.hid ((hb.block _ (blk_lt Q9.out)).trans Q9.out)
  have Q11 := Lib.hid ((hb.block _ (blk_lt Q11.out)).trans Q11.out)
  clear hb
  have Av6 := Lib.hid (heap_alloc_new w6 (.cells ZG 29))
  have Ev6 := Lib.hid (alloc_setRowT w6 ZG CN 29 _ rfl)
  have Q13 := Lib.hid (heap_alloc_new w6 (.cells CN 29))
  have halv6 : Below w6.heap.size w6 (w6.alloc (.cells CN 29)) := (Below.refl _ _).alloc (Nat.le_refl _) _
  have B0 := Lib.hid (B0.out.trans (halv6.mono B0.out.size))
  have GR := Lib.hid ((halv6.block _ (blk_lt GR.out)).trans GR.out)
  have SB := Lib.hid (SB.out.below halv6)
  have S1 := Lib.hid (S1.out.below halv6)
  have S2 := Lib.hid (S2.out.below halv6)
  have Q9 := Lib.hid ((halv6.block _ (blk_lt Q9.out)).trans Q9.out)
  have Q11 := Lib.hid ((halv6.block _ (blk_lt Q11.out)).trans Q11.out)
  clear halv6
  obtain ⟨WZ, hWZ⟩ : ∃ WZ, WZ = ((w6.alloc (.cells CN 29)).alloc (.cells CH 29)).setRow (w6.alloc (.cells CN 29)).heap.size C15 := ⟨_, rfl⟩
  have Av := Lib.hid (heap_alloc_new (w6.alloc (.cells CN 29)) (.cells ZG 29))
  have Ev := Lib.hid (alloc_setRowT (w6.alloc (.cells CN 29)) ZG CH 29 _ rfl)
  have Gv := Lib.hid (heap_alloc_new (w6.alloc (.cells CN 29)) (.cells CH 29))
  have halZ : Below (w6.alloc (.cells CN 29)).heap.size (w6.alloc (.cells CN 29)) WZ := by
    rw [hWZ]; exact ((Below.refl _ _).alloc (Nat.le_refl _) _).trans (below_row _ _ (Nat.le_refl _))
  have halA : Below (w6.alloc (.cells CN 29)).heap.size (w6.alloc (.cells CN 29)) ((w6.alloc (.cells CN 29)).alloc (.cells CH 29)) := (Below.refl _ _).alloc (Nat.le_refl _) _
  have GR8 := Lib.hid GR.out
  have c0 := HC0.out _ ((halA.block _ (blk_lt GR.out)).trans GR.out)
  have c15 : ((w6.alloc (.cells CN 29)).alloc (.cells CH 29)).cell? ⟨(w6.alloc (.cells CN 29)).heap.size, 0, none⟩ = some (.int .u64 H.g) := HCH.out _ _ Gv.out
  have f15 : ((w6.alloc (.cells CN 29)).alloc (.cells CH 29)).frozen? ⟨(w6.alloc (.cells CN 29)).heap.size, 0, none⟩ = false := frozen_block Gv.out 0
  have st : ((w6.alloc (.cells CN 29)).alloc (.cells CH 29)).setCell ⟨(w6.alloc (.cells CN 29)).heap.size, 0, none⟩ (.int .u64 (H.g + 1)) = WZ := by rw [setCell_eq_setRow _ _ _ _ _ _ _ Gv.out, HSET.out, hWZ]
  have hwr : IntKind.u64.wrap (H.g + 1) = H.g + 1 := by
    rw [IntKind.wrap_u64]; have := HG.out; omega
  have st2 : ((w6.alloc (.cells CN 29)).alloc (.cells CH 29)).setCell ⟨(w6.alloc (.cells CN 29)).heap.size, 0, none⟩ (.int .u64 ((H.g + 1) % 18446744073709551616)) = WZ := by
    rw [show (H.g + 1) % 18446744073709551616 = H.g + 1 by have := HG.out; omega]; exact st
  have Q15 : Hid (WZ.heap[(w6.alloc (.cells CN 29)).heap.size]? = some (.cells C15 29 (0, 0))) := by show _ = _; rw [hWZ]; exact setRow_heap _ _ _ _ _ _ Gv.out
  have GRa := GR
  have B0 := Lib.hid (B0.out.trans (halZ.mono B0.out.size))
  have GR := Lib.hid ((halZ.block _ (blk_lt GR.out)).trans GR.out)
  have SB := Lib.hid (SB.out.below halZ)
  have S1 := Lib.hid (S1.out.below halZ)
  have S2 := Lib.hid (S2.out.below halZ)
  have Q9 := Lib.hid ((halZ.block _ (blk_lt Q9.out)).trans Q9.out)
  have Q11 := Lib.hid ((halZ.block _ (blk_lt Q11.out)).trans Q11.out)
  have Q13 := Lib.hid ((halZ.block _ (blk_lt Q13.out)).trans Q13.out)
  have sx := S1.out.str
  have sy := S2.out.str
  have ev := EV.out
  have e0 := E0.out
  clear hWZ halZ halA
  generalize hsz : (w6.alloc (.cells CN 29)).heap.size = g15 at *
  go_wp2_with (first
    | (refine wpList_store_row rfl 29 (.tmp 13) (.tmp 44) rfl w6.heap.size CN rfl rfl 29 ZG Av6.out IN.out ZN.out ON.out ?_; rw [Ev6.out])
    | (refine wpList_load_row rfl 29 (.tmp 2) rfl w.heap.size rfl 29 CH (0, 0) _ GRa.out Try.underlying29 rfl IH.out ?_)
    | (refine wpList_store_row rfl 29 (.tmp 15) (.tmp 46) rfl g15 CH rfl rfl 29 ZG Av.out IH.out ZH.out OH.out ?_; rw [Ev.out])
    | (refine wpList_load_met rfl 29 (.tmp 9) rfl g9 rfl 29 ZG (0, 0) _ Q9.out Try.underlying29 ⟨_, rfl⟩ IP.out ?_)
    | (refine wpList_blank_met rfl 29 rfl (BH.out _) ?_))
  refine wp_region_held_drew (S := fun W => Below WZ.heap.size WZ W) (by kernel_rfl) (Below.refl _ _).drew (fun hS => ?_)
  refine' wpAnyH_take (i := 0) ?h1x0a ?hsx0a ?hfx0a ?hrx0a ?hQx0a (Or.inl ⟨?hwx0a, ?hyx0a⟩) hS ?restx0a
  case h1x0a => (simp only [List.getElem?_toArray, List.getElem?_cons_zero]; rfl)
  case hsx0a => kernel_rfl
  case hfx0a => kernel_rfl
  case hrx0a => kernel_rfl
  case hQx0a => exact fun _ _ _ h => h
  case hwx0a => rfl
  case hyx0a =>
    intro W hW
    go_simp
    try with_reducible rfl
  simp only [Act.put, List.setIfInBounds_toArray, List.set_cons_succ, List.set_cons_zero]
  refine' wpAnyH_take (i := 1) ?h1x1a ?hsx1a ?hfx1a ?hrx1a ?hQx1a (Or.inl ⟨?hwx1a, ?hyx1a⟩) hS ?restx1a
  case h1x1a => (simp only [List.getElem?_toArray, List.getElem?_cons_succ, List.getElem?_cons_zero]; rfl)
  case hsx1a => kernel_rfl
  case hfx1a => kernel_rfl
  case hrx1a => kernel_rfl
  case hQx1a => exact fun _ _ _ h => h
  case hwx1a => rfl
  case hyx1a =>
    intro W hW
    go_simp
    try with_reducible rfl
  simp only [Act.put, List.setIfInBounds_toArray, List.set_cons_succ, List.set_cons_zero]
  refine' wpAnyH_take (i := 2) ?h1x2a ?hsx2a ?hfx2a ?hrx2a ?hQx2a (Or.inl ⟨?hwx2a, ?hyx2a⟩) hS ?restx2a
  case h1x2a => (simp only [List.getElem?_toArray, List.getElem?_cons_succ, List.getElem?_cons_zero]; rfl)
  case hsx2a => kernel_rfl
  case hfx2a => kernel_rfl
  case hrx2a => kernel_rfl
  case hQx2a => exact fun _ _ _ h => h
  case hwx2a => rfl
  case hyx2a =>
    intro W hW
    go_simp
    try with_reducible rfl
  simp only [Act.put, List.setIfInBounds_toArray, List.set_cons_succ, List.set_cons_zero]
  refine' wpAnyH_take (i := 3) ?h1x3a ?hsx3a ?hfx3a ?hrx3a ?hQx3a (Or.inr ⟨?hwx3a, rfl⟩) hS ?restx3a
  case h1x3a => (simp only [List.getElem?_toArray, List.getElem?_cons_succ, List.getElem?_cons_zero]; rfl)
  case hsx3a => kernel_rfl
  case hfx3a => kernel_rfl
  case hrx3a => kernel_rfl
  case hQx3a => exact fun _ _ _ h => h
  case hwx3a => rfl
  simp only [Act.put, List.setIfInBounds_toArray, List.set_cons_succ, List.set_cons_zero]
  refine' wpAnyH_take (i := 4) ?h1x4a ?hsx4a ?hfx4a ?hrx4a ?hQx4a (Or.inr ⟨?hwx4a, rfl⟩) hS ?restx4a
  case h1x4a => (simp only [List.getElem?_toArray, List.getElem?_cons_succ, List.getElem?_cons_zero]; rfl)
  case hsx4a => kernel_rfl
  case hfx4a => kernel_rfl
  case hrx4a => kernel_rfl
  case hQx4a => exact fun _ _ _ h => h
  case hwx4a => rfl
  simp only [Act.put, List.setIfInBounds_toArray, List.set_cons_succ, List.set_cons_zero]
  refine' wpAnyH_take (i := 5) ?h1x5a ?hsx5a ?hfx5a ?hrx5a ?hQx5a (Or.inr ⟨?hwx5a, rfl⟩) hS ?restx5a
  case h1x5a => (simp only [List.getElem?_toArray, List.getElem?_cons_succ, List.getElem?_cons_zero]; rfl)
  case hsx5a => kernel_rfl
  case hfx5a => kernel_rfl
  case hrx5a => kernel_rfl
  case hQx5a => exact fun _ _ _ h => h
  case hwx5a => rfl
  simp only [Act.put, List.setIfInBounds_toArray, List.set_cons_succ, List.set_cons_zero]
  refine' wpAnyH_take (i := 6) ?h1x6a ?hsx6a ?hfx6a ?hrx6a ?hQx6a (Or.inr ⟨?hwx6a, rfl⟩) hS ?restx6a
  case h1x6a => (simp only [List.getElem?_toArray, List.getElem?_cons_succ, List.getElem?_cons_zero]; rfl)
  case hsx6a => kernel_rfl
  case hfx6a => kernel_rfl
  case hrx6a => kernel_rfl
  case hQx6a => exact fun _ _ _ h => h
  case hwx6a => rfl
  simp only [Act.put, List.setIfInBounds_toArray, List.set_cons_succ, List.set_cons_zero]
  refine' wpAnyH_take (i := 7) ?h1x7a ?hsx7a ?hfx7a ?hrx7a ?hQx7a (Or.inr ⟨?hwx7a, rfl⟩) hS ?restx7a
  case h1x7a => (simp only [List.getElem?_toArray, List.getElem?_cons_succ, List.getElem?_cons_zero]; rfl)
  case hsx7a => kernel_rfl
  case hfx7a => kernel_rfl
  case hrx7a => kernel_rfl
  case hQx7a => exact fun _ _ _ h => h
  case hwx7a => rfl
  simp only [Act.put, List.setIfInBounds_toArray, List.set_cons_succ, List.set_cons_zero]
  refine' wpAnyH_take (i := 8) ?h1x8a ?hsx8a ?hfx8a ?hrx8a ?hQx8a (Or.inr ⟨?hwx8a, rfl⟩) hS ?restx8a
  case h1x8a => (simp only [List.getElem?_toArray, List.getElem?_cons_succ, List.getElem?_cons_zero]; rfl)
  case hsx8a => kernel_rfl
  case hfx8a => kernel_rfl
  case hrx8a => kernel_rfl
  case hQx8a => exact fun _ _ _ h => h
  case hwx8a => rfl
  simp only [Act.put, List.setIfInBounds_toArray, List.set_cons_succ, List.set_cons_zero]
  refine' wpAnyH_take (i := 9) ?h1x9a ?hsx9a ?hfx9a ?hrx9a ?hQx9a (Or.inr ⟨?hwx9a, rfl⟩) hS ?restx9a
  case h1x9a => (simp only [List.getElem?_toArray, List.getElem?_cons_succ, List.getElem?_cons_zero]; rfl)
  case hsx9a => kernel_rfl
  case hfx9a => kernel_rfl
  case hrx9a => kernel_rfl
  case hQx9a => exact fun _ _ _ h => h
  case hwx9a => rfl
  simp only [Act.put, List.setIfInBounds_toArray, List.set_cons_succ, List.set_cons_zero]
  refine' wpAnyH_take (i := 10) ?h1x10a ?hsx10a ?hfx10a ?hrx10a ?hQx10a (Or.inr ⟨?hwx10a, rfl⟩) hS ?restx10a
  case h1x10a => (simp only [List.getElem?_toArray, List.getElem?_cons_succ, List.getElem?_cons_zero]; rfl)
  case hsx10a => kernel_rfl
  case hfx10a => kernel_rfl
  case hrx10a => kernel_rfl
  case hQx10a => exact fun _ _ _ h => h
  case hwx10a => rfl
  simp only [Act.put, List.setIfInBounds_toArray, List.set_cons_succ, List.set_cons_zero]
  refine' wpAnyH_take (i := 11) ?h1x11a ?hsx11a ?hfx11a ?hrx11a ?hQx11a (Or.inr ⟨?hwx11a, rfl⟩) hS ?restx11a
  case h1x11a => (simp only [List.getElem?_toArray, List.getElem?_cons_succ, List.getElem?_cons_zero]; rfl)
  case hsx11a => kernel_rfl
  case hfx11a => kernel_rfl
  case hrx11a => kernel_rfl
  case hQx11a => exact fun _ _ _ h => h
  case hwx11a => rfl
  simp only [Act.put, List.setIfInBounds_toArray, List.set_cons_succ, List.set_cons_zero]
  refine' wpAnyH_take (i := 12) ?h1x12a ?hsx12a ?hfx12a ?hrx12a ?hQx12a (Or.inr ⟨?hwx12a, rfl⟩) hS ?restx12a
  case h1x12a => (simp only [List.getElem?_toArray, List.getElem?_cons_succ, List.getElem?_cons_zero]; rfl)
  case hsx12a => kernel_rfl
  case hfx12a => kernel_rfl
  case hrx12a => kernel_rfl
  case hQx12a => exact fun _ _ _ h => h
  case hwx12a => rfl
  simp only [Act.put, List.setIfInBounds_toArray, List.set_cons_succ, List.set_cons_zero]
  refine' wpAnyH_take (i := 13) ?h1x13a ?hsx13a ?hfx13a ?hrx13a ?hQx13a (Or.inr ⟨?hwx13a, rfl⟩) hS ?restx13a
  case h1x13a => (simp only [List.getElem?_toArray, List.getElem?_cons_succ, List.getElem?_cons_zero]; rfl)
  case hsx13a => kernel_rfl
  case hfx13a => kernel_rfl
  case hrx13a => kernel_rfl
  case hQx13a => exact fun _ _ _ h => h
  case hwx13a => rfl
  simp only [Act.put, List.setIfInBounds_toArray, List.set_cons_succ, List.set_cons_zero]
  refine' wpAnyH_take (i := 14) ?h1x14a ?hsx14a ?hfx14a ?hrx14a ?hQx14a (Or.inr ⟨?hwx14a, rfl⟩) hS ?restx14a
  case h1x14a => (simp only [List.getElem?_toArray, List.getElem?_cons_succ, List.getElem?_cons_zero]; rfl)
  case hsx14a => kernel_rfl
  case hfx14a => kernel_rfl
  case hrx14a => kernel_rfl
  case hQx14a => exact fun _ _ _ h => h
  case hwx14a => rfl
  simp only [Act.put, List.setIfInBounds_toArray, List.set_cons_succ, List.set_cons_zero]
  refine' wpAnyH_take (i := 15) ?h1x15a ?hsx15a ?hfx15a ?hrx15a ?hQx15a (Or.inr ⟨?hwx15a, rfl⟩) hS ?restx15a
  case h1x15a => (simp only [List.getElem?_toArray, List.getElem?_cons_succ, List.getElem?_cons_zero]; rfl)
  case hsx15a => kernel_rfl
  case hfx15a => kernel_rfl
  case hrx15a => kernel_rfl
  case hQx15a => exact fun _ _ _ h => h
  case hwx15a => rfl
  simp only [Act.put, List.setIfInBounds_toArray, List.set_cons_succ, List.set_cons_zero]
  refine' wpAnyH_take (i := 16) ?h1x16a ?hsx16a ?hfx16a ?hrx16a ?hQx16a (Or.inr ⟨?hwx16a, rfl⟩) hS ?restx16a
  case h1x16a => (simp only [List.getElem?_toArray, List.getElem?_cons_succ, List.getElem?_cons_zero]; rfl)
  case hsx16a => kernel_rfl
  case hfx16a => kernel_rfl
  case hrx16a => kernel_rfl
  case hQx16a => exact fun _ _ _ h => h
  case hwx16a => rfl
  simp only [Act.put, List.setIfInBounds_toArray, List.set_cons_succ, List.set_cons_zero]
  refine' wpAnyH_take (i := 17) ?h1x17a ?hsx17a ?hfx17a ?hrx17a ?hQx17a (Or.inr ⟨?hwx17a, rfl⟩) hS ?restx17a
  case h1x17a => (simp only [List.getElem?_toArray, List.getElem?_cons_succ, List.getElem?_cons_zero]; rfl)
  case hsx17a => kernel_rfl
  case hfx17a => kernel_rfl
  case hrx17a => kernel_rfl
  case hQx17a => exact fun _ _ _ h => h
  case hwx17a => rfl
  simp only [Act.put, List.setIfInBounds_toArray, List.set_cons_succ, List.set_cons_zero]
  refine' wpAnyH_take (i := 18) ?h1x18a ?hsx18a ?hfx18a ?hrx18a ?hQx18a (Or.inr ⟨?hwx18a, rfl⟩) hS ?restx18a
  case h1x18a => (simp only [List.getElem?_toArray, List.getElem?_cons_succ, List.getElem?_cons_zero]; rfl)
  case hsx18a => kernel_rfl
  case hfx18a => kernel_rfl
  case hrx18a => kernel_rfl
  case hQx18a => exact fun _ _ _ h => h
  case hwx18a => rfl
  simp only [Act.put, List.setIfInBounds_toArray, List.set_cons_succ, List.set_cons_zero]
  refine' wpAnyH_take (i := 19) ?h1x19a ?hsx19a ?hfx19a ?hrx19a ?hQx19a (Or.inr ⟨?hwx19a, rfl⟩) hS ?restx19a
  case h1x19a => (simp only [List.getElem?_toArray, List.getElem?_cons_succ, List.getElem?_cons_zero]; rfl)
  case hsx19a => kernel_rfl
  case hfx19a => kernel_rfl
  case hrx19a => kernel_rfl
  case hQx19a => exact fun _ _ _ h => h
  case hwx19a => rfl
  simp only [Act.put, List.setIfInBounds_toArray, List.set_cons_succ, List.set_cons_zero]
  refine' wpAnyH_take (i := 20) ?h1x20a ?hsx20a ?hfx20a ?hrx20a ?hQx20a (Or.inr ⟨?hwx20a, rfl⟩) hS ?restx20a
  case h1x20a => (simp only [List.getElem?_toArray, List.getElem?_cons_succ, List.getElem?_cons_zero]; rfl)
  case hsx20a => kernel_rfl
  case hfx20a => kernel_rfl
  case hrx20a => kernel_rfl
  case hQx20a => exact fun _ _ _ h => h
  case hwx20a => rfl
  simp only [Act.put, List.setIfInBounds_toArray, List.set_cons_succ, List.set_cons_zero]
  refine' wpAnyH_take (i := 21) ?h1x21a ?hsx21a ?hfx21a ?hrx21a ?hQx21a (Or.inr ⟨?hwx21a, rfl⟩) hS ?restx21a
  case h1x21a => (simp only [List.getElem?_toArray, List.getElem?_cons_succ, List.getElem?_cons_zero]; rfl)
  case hsx21a => kernel_rfl
  case hfx21a => kernel_rfl
  case hrx21a => kernel_rfl
  case hQx21a => exact fun _ _ _ h => h
  case hwx21a => rfl
  simp only [Act.put, List.setIfInBounds_toArray, List.set_cons_succ, List.set_cons_zero]
  refine' wpAnyH_take (i := 22) ?h1x22a ?hsx22a ?hfx22a ?hrx22a ?hQx22a (Or.inr ⟨?hwx22a, rfl⟩) hS ?restx22a
  case h1x22a => (simp only [List.getElem?_toArray, List.getElem?_cons_succ, List.getElem?_cons_zero]; rfl)
  case hsx22a => kernel_rfl
  case hfx22a => kernel_rfl
  case hrx22a => kernel_rfl
  case hQx22a => exact fun _ _ _ h => h
  case hwx22a => rfl
  simp only [Act.put, List.setIfInBounds_toArray, List.set_cons_succ, List.set_cons_zero]
  refine' wpAnyH_take (i := 23) ?h1x23a ?hsx23a ?hfx23a ?hrx23a ?hQx23a (Or.inr ⟨?hwx23a, rfl⟩) hS ?restx23a
  case h1x23a => (simp only [List.getElem?_toArray, List.getElem?_cons_succ, List.getElem?_cons_zero]; rfl)
  case hsx23a => kernel_rfl
  case hfx23a => kernel_rfl
  case hrx23a => kernel_rfl
  case hQx23a => exact fun _ _ _ h => h
  case hwx23a => rfl
  simp only [Act.put, List.setIfInBounds_toArray, List.set_cons_succ, List.set_cons_zero]
  refine' wpAnyH_take (i := 24) ?h1x24a ?hsx24a ?hfx24a ?hrx24a ?hQx24a (Or.inr ⟨?hwx24a, rfl⟩) hS ?restx24a
  case h1x24a => (simp only [List.getElem?_toArray, List.getElem?_cons_succ, List.getElem?_cons_zero]; rfl)
  case hsx24a => kernel_rfl
  case hfx24a => kernel_rfl
  case hrx24a => kernel_rfl
  case hQx24a => exact fun _ _ _ h => h
  case hwx24a => rfl
  simp only [Act.put, List.setIfInBounds_toArray, List.set_cons_succ, List.set_cons_zero]
  refine' wpAnyH_take (i := 25) ?h1x25a ?hsx25a ?hfx25a ?hrx25a ?hQx25a (Or.inr ⟨?hwx25a, rfl⟩) hS ?restx25a
  case h1x25a => (simp only [List.getElem?_toArray, List.getElem?_cons_succ, List.getElem?_cons_zero]; rfl)
  case hsx25a => kernel_rfl
  case hfx25a => kernel_rfl
  case hrx25a => kernel_rfl
  case hQx25a => exact fun _ _ _ h => h
  case hwx25a => rfl
  simp only [Act.put, List.setIfInBounds_toArray, List.set_cons_succ, List.set_cons_zero]
  refine' wpAnyH_take (i := 26) ?h1x26a ?hsx26a ?hfx26a ?hrx26a ?hQx26a (Or.inr ⟨?hwx26a, rfl⟩) hS ?restx26a
  case h1x26a => (simp only [List.getElem?_toArray, List.getElem?_cons_succ, List.getElem?_cons_zero]; rfl)
  case hsx26a => kernel_rfl
  case hfx26a => kernel_rfl
  case hrx26a => kernel_rfl
  case hQx26a => exact fun _ _ _ h => h
  case hwx26a => rfl
  simp only [Act.put, List.setIfInBounds_toArray, List.set_cons_succ, List.set_cons_zero]
  refine' wpAnyH_take (i := 27) ?h1x27a ?hsx27a ?hfx27a ?hrx27a ?hQx27a (Or.inr ⟨?hwx27a, rfl⟩) hS ?restx27a
  case h1x27a => (simp only [List.getElem?_toArray, List.getElem?_cons_succ, List.getElem?_cons_zero]; rfl)
  case hsx27a => kernel_rfl
  case hfx27a => kernel_rfl
  case hrx27a => kernel_rfl
  case hQx27a => exact fun _ _ _ h => h
  case hwx27a => rfl
  simp only [Act.put, List.setIfInBounds_toArray, List.set_cons_succ, List.set_cons_zero]
  refine' wpAnyH_take (i := 28) ?h1x28a ?hsx28a ?hfx28a ?hrx28a ?hQx28a (Or.inr ⟨?hwx28a, rfl⟩) hS ?restx28a
  case h1x28a => (simp only [List.getElem?_toArray, List.getElem?_cons_succ, List.getElem?_cons_zero]; rfl)
  case hsx28a => kernel_rfl
  case hfx28a => kernel_rfl
  case hrx28a => kernel_rfl
  case hQx28a => exact fun _ _ _ h => h
  case hwx28a => rfl
  simp only [Act.put, List.setIfInBounds_toArray, List.set_cons_succ, List.set_cons_zero]
  refine' wpAnyH_take (i := 29) ?h1x29a ?hsx29a ?hfx29a ?hrx29a ?hQx29a (Or.inr ⟨?hwx29a, rfl⟩) hS ?restx29a
  case h1x29a => (simp only [List.getElem?_toArray, List.getElem?_cons_succ, List.getElem?_cons_zero]; rfl)
  case hsx29a => kernel_rfl
  case hfx29a => kernel_rfl
  case hrx29a => kernel_rfl
  case hQx29a => exact fun _ _ _ h => h
  case hwx29a => rfl
  simp only [Act.put, List.setIfInBounds_toArray, List.set_cons_succ, List.set_cons_zero]
  refine' wpAnyH_take (i := 30) ?h1x30a ?hsx30a ?hfx30a ?hrx30a ?hQx30a (Or.inr ⟨?hwx30a, rfl⟩) hS ?restx30a
  case h1x30a => (simp only [List.getElem?_toArray, List.getElem?_cons_succ, List.getElem?_cons_zero]; rfl)
  case hsx30a => kernel_rfl
  case hfx30a => kernel_rfl
  case hrx30a => kernel_rfl
  case hQx30a => exact fun _ _ _ h => h
  case hwx30a => rfl
  simp only [Act.put, List.setIfInBounds_toArray, List.set_cons_succ, List.set_cons_zero]
  refine' wpAnyH_take (i := 31) ?h1x31a ?hsx31a ?hfx31a ?hrx31a ?hQx31a (Or.inr ⟨?hwx31a, rfl⟩) hS ?restx31a
  case h1x31a => (simp only [List.getElem?_toArray, List.getElem?_cons_succ, List.getElem?_cons_zero]; rfl)
  case hsx31a => kernel_rfl
  case hfx31a => kernel_rfl
  case hrx31a => kernel_rfl
  case hQx31a => exact fun _ _ _ h => h
  case hwx31a => rfl
  simp only [Act.put, List.setIfInBounds_toArray, List.set_cons_succ, List.set_cons_zero]
  refine' wpAnyH_take (i := 32) ?h1x32a ?hsx32a ?hfx32a ?hrx32a ?hQx32a (Or.inr ⟨?hwx32a, rfl⟩) hS ?restx32a
  case h1x32a => (simp only [List.getElem?_toArray, List.getElem?_cons_succ, List.getElem?_cons_zero]; rfl)
  case hsx32a => kernel_rfl
  case hfx32a => kernel_rfl
  case hrx32a => kernel_rfl
  case hQx32a => exact fun _ _ _ h => h
  case hwx32a => rfl
  simp only [Act.put, List.setIfInBounds_toArray, List.set_cons_succ, List.set_cons_zero]
  refine' wpAnyH_take (i := 33) ?h1x33a ?hsx33a ?hfx33a ?hrx33a ?hQx33a (Or.inr ⟨?hwx33a, rfl⟩) hS ?restx33a
  case h1x33a => (simp only [List.getElem?_toArray, List.getElem?_cons_succ, List.getElem?_cons_zero]; rfl)
  case hsx33a => kernel_rfl
  case hfx33a => kernel_rfl
  case hrx33a => kernel_rfl
  case hQx33a => exact fun _ _ _ h => h
  case hwx33a => rfl
  simp only [Act.put, List.setIfInBounds_toArray, List.set_cons_succ, List.set_cons_zero]
  refine' wpAnyH_take (i := 34) ?h1x34a ?hsx34a ?hfx34a ?hrx34a ?hQx34a (Or.inr ⟨?hwx34a, rfl⟩) hS ?restx34a
  case h1x34a => (simp only [List.getElem?_toArray, List.getElem?_cons_succ, List.getElem?_cons_zero]; rfl)
  case hsx34a => kernel_rfl
  case hfx34a => kernel_rfl
  case hrx34a => kernel_rfl
  case hQx34a => exact fun _ _ _ h => h
  case hwx34a => rfl
  simp only [Act.put, List.setIfInBounds_toArray, List.set_cons_succ, List.set_cons_zero]
  refine' wpAnyH_take (i := 35) ?h1x35a ?hsx35a ?hfx35a ?hrx35a ?hQx35a (Or.inr ⟨?hwx35a, rfl⟩) hS ?restx35a
  case h1x35a => (simp only [List.getElem?_toArray, List.getElem?_cons_succ, List.getElem?_cons_zero]; rfl)
  case hsx35a => kernel_rfl
  case hfx35a => kernel_rfl
  case hrx35a => kernel_rfl
  case hQx35a => exact fun _ _ _ h => h
  case hwx35a => rfl
  simp only [Act.put, List.setIfInBounds_toArray, List.set_cons_succ, List.set_cons_zero]
  refine' wpAnyH_take (i := 36) ?h1x36a ?hsx36a ?hfx36a ?hrx36a ?hQx36a (Or.inr ⟨?hwx36a, rfl⟩) hS ?restx36a
  case h1x36a => (simp only [List.getElem?_toArray, List.getElem?_cons_succ, List.getElem?_cons_zero]; rfl)
  case hsx36a => kernel_rfl
  case hfx36a => kernel_rfl
  case hrx36a => kernel_rfl
  case hQx36a => exact fun _ _ _ h => h
  case hwx36a => rfl
  simp only [Act.put, List.setIfInBounds_toArray, List.set_cons_succ, List.set_cons_zero]
  refine' wpAnyH_take (i := 37) ?h1x37a ?hsx37a ?hfx37a ?hrx37a ?hQx37a (Or.inr ⟨?hwx37a, rfl⟩) hS ?restx37a
  case h1x37a => (simp only [List.getElem?_toArray, List.getElem?_cons_succ, List.getElem?_cons_zero]; rfl)
  case hsx37a => kernel_rfl
  case hfx37a => kernel_rfl
  case hrx37a => kernel_rfl
  case hQx37a => exact fun _ _ _ h => h
  case hwx37a => rfl
  simp only [Act.put, List.setIfInBounds_toArray, List.set_cons_succ, List.set_cons_zero]
  refine' wpAnyH_take (i := 38) ?h1x38a ?hsx38a ?hfx38a ?hrx38a ?hQx38a (Or.inr ⟨?hwx38a, rfl⟩) hS ?restx38a
  case h1x38a => (simp only [List.getElem?_toArray, List.getElem?_cons_succ, List.getElem?_cons_zero]; rfl)
  case hsx38a => kernel_rfl
  case hfx38a => kernel_rfl
  case hrx38a => kernel_rfl
  case hQx38a => exact fun _ _ _ h => h
  case hwx38a => rfl
  simp only [Act.put, List.setIfInBounds_toArray, List.set_cons_succ, List.set_cons_zero]
  refine' wpAnyH_take (i := 39) ?h1x39a ?hsx39a ?hfx39a ?hrx39a ?hQx39a (Or.inr ⟨?hwx39a, rfl⟩) hS ?restx39a
  case h1x39a => (simp only [List.getElem?_toArray, List.getElem?_cons_succ, List.getElem?_cons_zero]; rfl)
  case hsx39a => kernel_rfl
  case hfx39a => kernel_rfl
  case hrx39a => kernel_rfl
  case hQx39a => exact fun _ _ _ h => h
  case hwx39a => rfl
  simp only [Act.put, List.setIfInBounds_toArray, List.set_cons_succ, List.set_cons_zero]
  refine' wpAnyH_take (i := 40) ?h1x40a ?hsx40a ?hfx40a ?hrx40a ?hQx40a (Or.inl ⟨?hwx40a, ?hyx40a⟩) hS ?restx40a
  case h1x40a => (simp only [List.getElem?_toArray, List.getElem?_cons_succ, List.getElem?_cons_zero]; rfl)
  case hsx40a => kernel_rfl
  case hfx40a => kernel_rfl
  case hrx40a => kernel_rfl
  case hQx40a => exact fun _ _ _ h => h
  case hwx40a => rfl
  case hyx40a =>
    intro W hW
    go_simp
    try with_reducible rfl
  simp only [Act.put, List.setIfInBounds_toArray, List.set_cons_succ, List.set_cons_zero]
  refine wpAnyH_done (by kernel_rfl) ?_ _
  have B0 := Lib.hid (B0.out.trans (hS.mono B0.out.size))
  have GR := Lib.hid ((hS.block _ (blk_lt GR.out)).trans GR.out)
  have Q13 := Lib.hid ((hS.block _ (blk_lt Q13.out)).trans Q13.out)
  have Q15 := Lib.hid ((hS.block _ (blk_lt Q15.out)).trans Q15.out)
  have c0z := HC0.out _ GR.out
  have hgn : (H.g == 18446744073709551615) = false := by rw [beq_eq_false_iff_ne]; exact HG.out
  have en := EN.out
  clear hS
  go_wp2_with fail
  refine (AL.out _).mono ?_
  rintro e wl ⟨rfl, hb⟩
  have B0 := Lib.hid (B0.out.trans (hb.mono B0.out.size))
  have GR := Lib.hid ((hb.block _ (blk_lt GR.out)).trans GR.out)
  have Q13 := Lib.hid ((hb.block _ (blk_lt Q13.out)).trans Q13.out)
  have Q15 := Lib.hid ((hb.block _ (blk_lt Q15.out)).trans Q15.out)
  clear hb
  go_wp2_with (first
    | (refine wpList_load_met rfl 29 (.tmp 13) rfl w6.heap.size rfl 29 CN (0, 0) _ Q13.out Try.underlying29 ⟨_, rfl⟩ IN.out ?_)
    | (refine wpList_load_met rfl 29 (.tmp 15) rfl g15 rfl 29 C15 (0, 0) _ Q15.out Try.underlying29 ⟨_, rfl⟩ I15.out ?_))
  go_ret
  exact ⟨rfl, B0.out⟩
set_option maxRecDepth 100000 in
set_option maxHeartbeats 16000000 in
theorem walk_bad_max (H : Hd) (hH : H.ok) (v : Value) (bs : List Int) (hl : bs.length ≤ 1000) (w : World) (h : Sees w v bs) (hr : hRe bs = 3) (hg : H.g = 18446744073709551615) :
    Calls Try.prog 3 #[.agg (hcells H), v] w fun e w' => e = .returned (.bool true) ∧ Below w.heap.size w w' := by
  obtain ⟨x, cap, rfl, _⟩ := h.form
  have hl' : (bs.length : Int) ≤ 1000 := by omega
  have hz29 := z29
  have hz37 : ∀ w : World, (zeroValue 37).run Try.prog w = .ok (.agg Dz) w := z37
  have HOK := Lib.hid hH
  have WH : Hid (∀ W, Calls Try.prog 12 #[.agg (hcells H)] W (WriteHP W H)) := fun W => writeH H hH W
  have AH : Hid (∀ W, Calls Try.prog 14 #[.agg (hcells H)] W (AsHP W H)) := fun W => asH H hH W
  have DH : Hid (∀ x c W, Sees W (.slice x 32 c) H.z → Calls Try.prog 13 #[.agg (dcells H.g H.e H.h H.s (.slice x 32 c))] W (WriteHP W H)) := fun x c W hs => refWH H hH x c W hs
  have RB : Hid (∀ v W, Sees W v bs → Calls Try.prog 15 #[v] W fun e w' => e = .returned (.tuple #[.agg (hcells H0), .int .i64 3]) ∧ Below W.heap.size W w') := fun v W h => by
    have := readH v _ W h
    unfold ReadHP hRv at this
    rw [hr, if_neg (by decide)] at this
    exact this
  have RD : Hid (∀ v W, Sees W v bs → Calls Try.prog 16 #[v] W fun e w' => e = .returned (.tuple #[.agg Dz, .int .i64 3]) ∧ Below W.heap.size W w') := fun v W h =>
    (refRH v _ W h).mono fun e w' hh => by
      obtain ⟨⟨e0, _⟩ | ⟨_, he⟩, hb⟩ := hh
      · rw [hr] at e0; exact absurd e0 (by decide)
      · exact ⟨he, hb⟩
  have hPok : H0.ok := H0_ok
  have NX : Hid (∀ W, Calls Try.prog 17 #[.agg (hcells H)] W fun e w' => e = .returned (.tuple #[.agg (hcells H0), .int .i64 5]) ∧ Below W.heap.size W w') := fun W => by
    have := next H hH W
    unfold NextP nxV nxE at this
    rw [if_pos hg, if_pos hg] at this
    exact this
  have IH := Lib.hid (i29 hH.2.2.2.2)
  have OH := Lib.hid (one_hcells H)
  have ZH : Hid ((hcells H0).size = (hcells H).size) := by show _ = _; rw [hcells_size (zs_len 32), hcells_size hH.2.2.2.2]
  have IP := Lib.hid (i29 hPok.2.2.2.2)
  have OP := Lib.hid (one_hcells H0)
  have ZP : Hid ((hcells H0).size = (hcells H0).size) := (hcells_size (H := H0) (zs_len 32)).trans (hcells_size hPok.2.2.2.2).symm
  have hNz : (H0 : Hd).z.length = 32 := zs_len 32
  have IN := Lib.hid (i29 hNz)
  have ON := Lib.hid (one_hcells H0)
  have ZN : Hid ((hcells H0).size = (hcells H0).size) := (hcells_size (H := H0) (zs_len 32)).trans (hcells_size hNz).symm
  have I15 := Lib.hid (i29 (H := { H with g := 0 }) hH.2.2.2.2)
  have EN : Hid (∀ W, (Op.equalIn 10000 29 (.agg (hcells H0)) (.agg (hcells H0))).run Try.prog W = .ok true W) := fun W => eq29 (H0) (zs_byt _) (zs_len _) W
  have BH := Lib.hid bld29
  have EV : Hid (((strOfNums (hV H)).toList == (strOfNums (hV H)).toList) = true) := beq_self_eq_true _
  have PZ : Hid (Byt H0.z ∧ H0.z.length = 32) := hPok.2.2.2
  have EP : Hid (((strOfNums H0.z).toList == (strOfNums H0.z).toList) = true) := beq_self_eq_true _
  have E0 : Hid (∀ W, (Op.equalIn 10000 29 (.agg (hcells H0)) (.agg (hcells H0))).run Try.prog W = .ok true W) := fun W => eq29 _ (zs_byt _) (zs_len _) W
  have AL := Lib.hid alive19
  have HCH : Hid (∀ (W : World) (b : Nat), W.heap[b]? = some (.cells (hcells H) 29 (0, 0)) → W.cell? ⟨b, 0, none⟩ = some (.int .u64 H.g)) := fun W b h => hcell0 h
  have SB := Lib.hid h
  have HSET := Lib.hid (hset0 H (0))
  have HG := Lib.hid hg
  have hgb := hH.1
  clear hg
  clear hr hPok
  obtain ⟨W0, hW0⟩ : ∃ W0, W0 = w.alloc (.cells (hcells H) 29) := ⟨_, rfl⟩
  have B0 : Hid (Below w.heap.size w W0) := by rw [hW0]; exact (Below.refl _ _).alloc (Nat.le_refl _) _
  have GR : Hid (W0.heap[w.heap.size]? = some (.cells (hcells H) 29 (0, 0))) := by rw [hW0]; exact heap_alloc_new w _
  have SB := Lib.hid (SB.out.below B0.out)
  have HC0 : Hid (∀ W : World, W.heap[w.heap.size]? = some (.cells (hcells H) 29 (0, 0)) → W.cell? ⟨w.heap.size, 0, none⟩ = some (.int .u64 H.g)) := fun W h => hcell0 h
  have HW0 := Lib.hid hW0
  clear hW0 hH h hl
  generalize hcells H = CH at *
  generalize hcells H0 = CN at *
  generalize hcells { H with g := 0 } = C15 at *
  go_enter Try.func3, Try.ntmps3
  go_wp2_with (refine wpList_load_row rfl 29 (.tmp 2) rfl w.heap.size rfl 29 CH (0, 0) _ (by rw [← HW0.out]; exact GR.out) Try.underlying29 rfl IH.out ?_)
  rw [← HW0.out]
  refine (WH.out _).mono ?_
  rintro e w1 ⟨u1, rfl, hs, hb⟩
  have B0 := Lib.hid (B0.out.trans (hb.mono B0.out.size))
  have GR := Lib.hid ((hb.block _ (blk_lt GR.out)).trans GR.out)
  have SB := Lib.hid (SB.out.below hb)
  have S1 := Lib.hid hs
  obtain ⟨ux1, uc1, rfl, _⟩ := hs.form
  clear hs
  clear hb
  go_wp2_with (refine wpList_load_row rfl 29 (.tmp 2) rfl w.heap.size rfl 29 CH (0, 0) _ GR.out Try.underlying29 rfl IH.out ?_)
  refine (AH.out _).mono ?_
  rintro e w2 ⟨xa, ca, rfl, hs, hb⟩
  have B0 := Lib.hid (B0.out.trans (hb.mono B0.out.size))
  have GR := Lib.hid ((hb.block _ (blk_lt GR.out)).trans GR.out)
  have SB := Lib.hid (SB.out.below hb)
  have S1 := Lib.hid (S1.out.below hb)
  have SA := Lib.hid hs
  clear hs
  clear hb
  go_wp2_with fail
  refine (DH.out _ _ _ SA.out).mono ?_
  rintro e w3 ⟨u2, rfl, hs, hb⟩
  have B0 := Lib.hid (B0.out.trans (hb.mono B0.out.size))
  have GR := Lib.hid ((hb.block _ (blk_lt GR.out)).trans GR.out)
  have SB := Lib.hid (SB.out.below hb)
  have S1 := Lib.hid (S1.out.below hb)
  have SA := Lib.hid (SA.out.below hb)
  have S2 := Lib.hid hs
  obtain ⟨ux2, uc2, rfl, _⟩ := hs.form
  clear hs
  clear hb
  go_wp2_with fail
  refine (RB.out _ _ SB.out).mono ?_
  rintro e w4 ⟨rfl, hb⟩
  have B0 := Lib.hid (B0.out.trans (hb.mono B0.out.size))
  have GR := Lib.hid ((hb.block _ (blk_lt GR.out)).trans GR.out)
  have SB := Lib.hid (SB.out.below hb)
  have S1 := Lib.hid (S1.out.below hb)
  have S2 := Lib.hid (S2.out.below hb)
  clear hb
  have Av4 := Lib.hid (heap_alloc_new w4 (.cells CN 29))
  have Ev4 := Lib.hid (alloc_setRowT w4 CN CN 29 _ rfl)
  have Q9 := Lib.hid (heap_alloc_new w4 (.cells CN 29))
  have halv4 : Below w4.heap.size w4 (w4.alloc (.cells CN 29)) := (Below.refl _ _).alloc (Nat.le_refl _) _
  have B0 := Lib.hid (B0.out.trans (halv4.mono B0.out.size))
  have GR := Lib.hid ((halv4.block _ (blk_lt GR.out)).trans GR.out)
  have SB := Lib.hid (SB.out.below halv4)
  have S1 := Lib.hid (S1.out.below halv4)
  have S2 := Lib.hid (S2.out.below halv4)
  clear halv4
  go_wp2_with (first
    | (refine wpList_store_row rfl 29 (.tmp 9) (.tmp 34) rfl w4.heap.size CN rfl rfl 29 CN Av4.out IP.out rfl OP.out ?_; rw [Ev4.out]))
  clear Av4 Ev4
  generalize w4.alloc (.cells CN 29) = v4 at *
  generalize w4.heap.size = g9 at *
  refine (RD.out _ _ SB.out).mono ?_
  rintro e w5 ⟨rfl, hb⟩
  have B0 := Lib.hid (B0.out.trans (hb.mono B0.out.size))
  have GR := Lib.hid ((hb.block _ (blk_lt GR.out)).trans GR.out)
  have SB := Lib.hid (SB.out.below hb)
  have S1 := Lib.hid (S1.out.below hb)
  have S2 := Lib.hid (S2.out.below hb)
  have Q9 := Lib.hid ((hb.block _ (blk_lt Q9.out)).trans Q9.out)
  clear hb
  have ID : Hid ((Try.prog.info? 37).map (·.size) = some Dz.size) := i37 0 0 false 0 (.slice none 0 0)
  have OD : Hid (Dz.all (·.oneCell') = true) := one_dcells 0 0 false 0 none 0 0
  have ZD : Hid (Dz.size = Dz.size) := rfl
  have Av5 := Lib.hid (heap_alloc_new w5 (.cells Dz 37))
  have Ev5 := Lib.hid (alloc_setRowT w5 Dz Dz 37 _ rfl)
  have Q11 := Lib.hid (heap_alloc_new w5 (.cells Dz 37))
  have halv5 : Below w5.heap.size w5 (w5.alloc (.cells Dz 37)) := (Below.refl _ _).alloc (Nat.le_refl _) _
  have B0 := Lib.hid (B0.out.trans (halv5.mono B0.out.size))
  have GR := Lib.hid ((halv5.block _ (blk_lt GR.out)).trans GR.out)
  have SB := Lib.hid (SB.out.below halv5)
  have S1 := Lib.hid (S1.out.below halv5)
  have S2 := Lib.hid (S2.out.below halv5)
  have Q9 := Lib.hid ((halv5.block _ (blk_lt Q9.out)).trans Q9.out)
  clear halv5
  go_wp2_with (first
    | (refine wpList_store_row rfl 37 (.tmp 11) (.tmp 39) rfl w5.heap.size Dz rfl rfl 37 Dz Av5.out ID.out rfl OD.out ?_; rw [Ev5.out])
    | (refine wpList_load_row rfl 29 (.tmp 2) rfl w.heap.size rfl 29 CH (0, 0) _ GR.out Try.underlying29 rfl IH.out ?_))
  clear Av5 Ev5
  generalize w5.alloc (.cells Dz 37) = v5 at *
  generalize w5.heap.size = g11 at *
  refine (NX.out _).mono ?_
  rintro e w6 ⟨rfl, hb⟩
  have B0 := Lib.hid (B0.out.trans (hb.mono B0.out.size))
  have GR := Lib.hid ((hb.block _ (blk_lt GR.out)).trans GR.out)
  have SB := Lib.hid (SB.out.below hb)
  have S1 := Lib.hid (S1.out.below hb)
  have S2 := Lib.hid (S2.out.below hb)
  have Q9 := Lib.hid ((hb.block _ (blk_lt Q9.out)).trans Q9.out)
  have Q11 := Lib.hid ((hb.block _ (blk_lt Q11.out)).trans Q11.out)
  clear hb
  have Av6 := Lib.hid (heap_alloc_new w6 (.cells CN 29))
  have Ev6 := Lib.hid (alloc_setRowT w6 CN CN 29 _ rfl)
  have Q13 := Lib.hid (heap_alloc_new w6 (.cells CN 29))
  have halv6 : Below w6.heap.size w6 (w6.alloc (.cells CN 29)) := (Below.refl _ _).alloc (Nat.le_refl _) _
  have B0 := Lib.hid (B0.out.trans (halv6.mono B0.out.size))
  have GR := Lib.hid ((halv6.block _ (blk_lt GR.out)).trans GR.out)
  have SB := Lib.hid (SB.out.below halv6)
  have S1 := Lib.hid (S1.out.below halv6)
  have S2 := Lib.hid (S2.out.below halv6)
  have Q9 := Lib.hid ((halv6.block _ (blk_lt Q9.out)).trans Q9.out)
  have Q11 := Lib.hid ((halv6.block _ (blk_lt Q11.out)).trans Q11.out)
  clear halv6
  obtain ⟨WZ, hWZ⟩ : ∃ WZ, WZ = ((w6.alloc (.cells CN 29)).alloc (.cells CH 29)).setRow (w6.alloc (.cells CN 29)).heap.size C15 := ⟨_, rfl⟩
  have Av := Lib.hid (heap_alloc_new (w6.alloc (.cells CN 29)) (.cells CN 29))
  have Ev := Lib.hid (alloc_setRowT (w6.alloc (.cells CN 29)) CN CH 29 _ rfl)
  have Gv := Lib.hid (heap_alloc_new (w6.alloc (.cells CN 29)) (.cells CH 29))
  have halZ : Below (w6.alloc (.cells CN 29)).heap.size (w6.alloc (.cells CN 29)) WZ := by
    rw [hWZ]; exact ((Below.refl _ _).alloc (Nat.le_refl _) _).trans (below_row _ _ (Nat.le_refl _))
  have halA : Below (w6.alloc (.cells CN 29)).heap.size (w6.alloc (.cells CN 29)) ((w6.alloc (.cells CN 29)).alloc (.cells CH 29)) := (Below.refl _ _).alloc (Nat.le_refl _) _
  have GR8 := Lib.hid GR.out
  have c0 := HC0.out _ ((halA.block _ (blk_lt GR.out)).trans GR.out)
  have c15 : ((w6.alloc (.cells CN 29)).alloc (.cells CH 29)).cell? ⟨(w6.alloc (.cells CN 29)).heap.size, 0, none⟩ = some (.int .u64 H.g) := HCH.out _ _ Gv.out
  have f15 : ((w6.alloc (.cells CN 29)).alloc (.cells CH 29)).frozen? ⟨(w6.alloc (.cells CN 29)).heap.size, 0, none⟩ = false := frozen_block Gv.out 0
  have st : ((w6.alloc (.cells CN 29)).alloc (.cells CH 29)).setCell ⟨(w6.alloc (.cells CN 29)).heap.size, 0, none⟩ (.int .u64 (0)) = WZ := by rw [setCell_eq_setRow _ _ _ _ _ _ _ Gv.out, HSET.out, hWZ]
  rw [HG.out] at c0
  have hwr : IntKind.u64.wrap 18446744073709551616 = 0 := by decide
  have Q15 : Hid (WZ.heap[(w6.alloc (.cells CN 29)).heap.size]? = some (.cells C15 29 (0, 0))) := by show _ = _; rw [hWZ]; exact setRow_heap _ _ _ _ _ _ Gv.out
  have GRa := GR
  have B0 := Lib.hid (B0.out.trans (halZ.mono B0.out.size))
  have GR := Lib.hid ((halZ.block _ (blk_lt GR.out)).trans GR.out)
  have SB := Lib.hid (SB.out.below halZ)
  have S1 := Lib.hid (S1.out.below halZ)
  have S2 := Lib.hid (S2.out.below halZ)
  have Q9 := Lib.hid ((halZ.block _ (blk_lt Q9.out)).trans Q9.out)
  have Q11 := Lib.hid ((halZ.block _ (blk_lt Q11.out)).trans Q11.out)
  have Q13 := Lib.hid ((halZ.block _ (blk_lt Q13.out)).trans Q13.out)
  have sx := S1.out.str
  have sy := S2.out.str
  have ev := EV.out
  have e0 := E0.out
  clear hWZ halZ halA
  generalize hsz : (w6.alloc (.cells CN 29)).heap.size = g15 at *
  go_wp2_with (first
    | (refine wpList_store_row rfl 29 (.tmp 13) (.tmp 44) rfl w6.heap.size CN rfl rfl 29 CN Av6.out IN.out rfl ON.out ?_; rw [Ev6.out])
    | (refine wpList_load_row rfl 29 (.tmp 2) rfl w.heap.size rfl 29 CH (0, 0) _ GRa.out Try.underlying29 rfl IH.out ?_)
    | (refine wpList_store_row rfl 29 (.tmp 15) (.tmp 46) rfl g15 CH rfl rfl 29 CN Av.out IH.out ZH.out OH.out ?_; rw [Ev.out])
    | (refine wpList_load_met rfl 29 (.tmp 9) rfl g9 rfl 29 CN (0, 0) _ Q9.out Try.underlying29 ⟨_, rfl⟩ IP.out ?_)
    | (refine wpList_blank_met rfl 29 rfl (BH.out _) ?_))
  refine wp_region_held_drew (S := fun W => Below WZ.heap.size WZ W) (by kernel_rfl) (Below.refl _ _).drew (fun hS => ?_)
  refine' wpAnyH_take (i := 0) ?h1x0a ?hsx0a ?hfx0a ?hrx0a ?hQx0a (Or.inl ⟨?hwx0a, ?hyx0a⟩) hS ?restx0a
  case h1x0a => (simp only [List.getElem?_toArray, List.getElem?_cons_zero]; rfl)
  case hsx0a => kernel_rfl
  case hfx0a => kernel_rfl
  case hrx0a => kernel_rfl
  case hQx0a => exact fun _ _ _ h => h
  case hwx0a => rfl
  case hyx0a =>
    intro W hW
    go_simp
    try with_reducible rfl
  simp only [Act.put, List.setIfInBounds_toArray, List.set_cons_succ, List.set_cons_zero]
  refine' wpAnyH_take (i := 1) ?h1x1a ?hsx1a ?hfx1a ?hrx1a ?hQx1a (Or.inl ⟨?hwx1a, ?hyx1a⟩) hS ?restx1a
  case h1x1a => (simp only [List.getElem?_toArray, List.getElem?_cons_succ, List.getElem?_cons_zero]; rfl)
  case hsx1a => kernel_rfl
  case hfx1a => kernel_rfl
  case hrx1a => kernel_rfl
  case hQx1a => exact fun _ _ _ h => h
  case hwx1a => rfl
  case hyx1a =>
    intro W hW
    go_simp
    try with_reducible rfl
  simp only [Act.put, List.setIfInBounds_toArray, List.set_cons_succ, List.set_cons_zero]
  refine' wpAnyH_take (i := 2) ?h1x2a ?hsx2a ?hfx2a ?hrx2a ?hQx2a (Or.inl ⟨?hwx2a, ?hyx2a⟩) hS ?restx2a
  case h1x2a => (simp only [List.getElem?_toArray, List.getElem?_cons_succ, List.getElem?_cons_zero]; rfl)
  case hsx2a => kernel_rfl
  case hfx2a => kernel_rfl
  case hrx2a => kernel_rfl
  case hQx2a => exact fun _ _ _ h => h
  case hwx2a => rfl
  case hyx2a =>
    intro W hW
    go_simp
    try with_reducible rfl
  simp only [Act.put, List.setIfInBounds_toArray, List.set_cons_succ, List.set_cons_zero]
  refine' wpAnyH_take (i := 3) ?h1x3a ?hsx3a ?hfx3a ?hrx3a ?hQx3a (Or.inr ⟨?hwx3a, rfl⟩) hS ?restx3a
  case h1x3a => (simp only [List.getElem?_toArray, List.getElem?_cons_succ, List.getElem?_cons_zero]; rfl)
  case hsx3a => kernel_rfl
  case hfx3a => kernel_rfl
  case hrx3a => kernel_rfl
  case hQx3a => exact fun _ _ _ h => h
  case hwx3a => rfl
  simp only [Act.put, List.setIfInBounds_toArray, List.set_cons_succ, List.set_cons_zero]
  refine' wpAnyH_take (i := 4) ?h1x4a ?hsx4a ?hfx4a ?hrx4a ?hQx4a (Or.inr ⟨?hwx4a, rfl⟩) hS ?restx4a
  case h1x4a => (simp only [List.getElem?_toArray, List.getElem?_cons_succ, List.getElem?_cons_zero]; rfl)
  case hsx4a => kernel_rfl
  case hfx4a => kernel_rfl
  case hrx4a => kernel_rfl
  case hQx4a => exact fun _ _ _ h => h
  case hwx4a => rfl
  simp only [Act.put, List.setIfInBounds_toArray, List.set_cons_succ, List.set_cons_zero]
  refine' wpAnyH_take (i := 5) ?h1x5a ?hsx5a ?hfx5a ?hrx5a ?hQx5a (Or.inr ⟨?hwx5a, rfl⟩) hS ?restx5a
  case h1x5a => (simp only [List.getElem?_toArray, List.getElem?_cons_succ, List.getElem?_cons_zero]; rfl)
  case hsx5a => kernel_rfl
  case hfx5a => kernel_rfl
  case hrx5a => kernel_rfl
  case hQx5a => exact fun _ _ _ h => h
  case hwx5a => rfl
  simp only [Act.put, List.setIfInBounds_toArray, List.set_cons_succ, List.set_cons_zero]
  refine' wpAnyH_take (i := 6) ?h1x6a ?hsx6a ?hfx6a ?hrx6a ?hQx6a (Or.inr ⟨?hwx6a, rfl⟩) hS ?restx6a
  case h1x6a => (simp only [List.getElem?_toArray, List.getElem?_cons_succ, List.getElem?_cons_zero]; rfl)
  case hsx6a => kernel_rfl
  case hfx6a => kernel_rfl
  case hrx6a => kernel_rfl
  case hQx6a => exact fun _ _ _ h => h
  case hwx6a => rfl
  simp only [Act.put, List.setIfInBounds_toArray, List.set_cons_succ, List.set_cons_zero]
  refine' wpAnyH_take (i := 7) ?h1x7a ?hsx7a ?hfx7a ?hrx7a ?hQx7a (Or.inr ⟨?hwx7a, rfl⟩) hS ?restx7a
  case h1x7a => (simp only [List.getElem?_toArray, List.getElem?_cons_succ, List.getElem?_cons_zero]; rfl)
  case hsx7a => kernel_rfl
  case hfx7a => kernel_rfl
  case hrx7a => kernel_rfl
  case hQx7a => exact fun _ _ _ h => h
  case hwx7a => rfl
  simp only [Act.put, List.setIfInBounds_toArray, List.set_cons_succ, List.set_cons_zero]
  refine' wpAnyH_take (i := 8) ?h1x8a ?hsx8a ?hfx8a ?hrx8a ?hQx8a (Or.inr ⟨?hwx8a, rfl⟩) hS ?restx8a
  case h1x8a => (simp only [List.getElem?_toArray, List.getElem?_cons_succ, List.getElem?_cons_zero]; rfl)
  case hsx8a => kernel_rfl
  case hfx8a => kernel_rfl
  case hrx8a => kernel_rfl
  case hQx8a => exact fun _ _ _ h => h
  case hwx8a => rfl
  simp only [Act.put, List.setIfInBounds_toArray, List.set_cons_succ, List.set_cons_zero]
  refine' wpAnyH_take (i := 9) ?h1x9a ?hsx9a ?hfx9a ?hrx9a ?hQx9a (Or.inr ⟨?hwx9a, rfl⟩) hS ?restx9a
  case h1x9a => (simp only [List.getElem?_toArray, List.getElem?_cons_succ, List.getElem?_cons_zero]; rfl)
  case hsx9a => kernel_rfl
  case hfx9a => kernel_rfl
  case hrx9a => kernel_rfl
  case hQx9a => exact fun _ _ _ h => h
  case hwx9a => rfl
  simp only [Act.put, List.setIfInBounds_toArray, List.set_cons_succ, List.set_cons_zero]
  refine' wpAnyH_take (i := 10) ?h1x10a ?hsx10a ?hfx10a ?hrx10a ?hQx10a (Or.inr ⟨?hwx10a, rfl⟩) hS ?restx10a
  case h1x10a => (simp only [List.getElem?_toArray, List.getElem?_cons_succ, List.getElem?_cons_zero]; rfl)
  case hsx10a => kernel_rfl
  case hfx10a => kernel_rfl
  case hrx10a => kernel_rfl
  case hQx10a => exact fun _ _ _ h => h
  case hwx10a => rfl
  simp only [Act.put, List.setIfInBounds_toArray, List.set_cons_succ, List.set_cons_zero]
  refine' wpAnyH_take (i := 11) ?h1x11a ?hsx11a ?hfx11a ?hrx11a ?hQx11a (Or.inr ⟨?hwx11a, rfl⟩) hS ?restx11a
  case h1x11a => (simp only [List.getElem?_toArray, List.getElem?_cons_succ, List.getElem?_cons_zero]; rfl)
  case hsx11a => kernel_rfl
  case hfx11a => kernel_rfl
  case hrx11a => kernel_rfl
  case hQx11a => exact fun _ _ _ h => h
  case hwx11a => rfl
  simp only [Act.put, List.setIfInBounds_toArray, List.set_cons_succ, List.set_cons_zero]
  refine' wpAnyH_take (i := 12) ?h1x12a ?hsx12a ?hfx12a ?hrx12a ?hQx12a (Or.inr ⟨?hwx12a, rfl⟩) hS ?restx12a
  case h1x12a => (simp only [List.getElem?_toArray, List.getElem?_cons_succ, List.getElem?_cons_zero]; rfl)
  case hsx12a => kernel_rfl
  case hfx12a => kernel_rfl
  case hrx12a => kernel_rfl
  case hQx12a => exact fun _ _ _ h => h
  case hwx12a => rfl
  simp only [Act.put, List.setIfInBounds_toArray, List.set_cons_succ, List.set_cons_zero]
  refine' wpAnyH_take (i := 13) ?h1x13a ?hsx13a ?hfx13a ?hrx13a ?hQx13a (Or.inr ⟨?hwx13a, rfl⟩) hS ?restx13a
  case h1x13a => (simp only [List.getElem?_toArray, List.getElem?_cons_succ, List.getElem?_cons_zero]; rfl)
  case hsx13a => kernel_rfl
  case hfx13a => kernel_rfl
  case hrx13a => kernel_rfl
  case hQx13a => exact fun _ _ _ h => h
  case hwx13a => rfl
  simp only [Act.put, List.setIfInBounds_toArray, List.set_cons_succ, List.set_cons_zero]
  refine' wpAnyH_take (i := 14) ?h1x14a ?hsx14a ?hfx14a ?hrx14a ?hQx14a (Or.inr ⟨?hwx14a, rfl⟩) hS ?restx14a
  case h1x14a => (simp only [List.getElem?_toArray, List.getElem?_cons_succ, List.getElem?_cons_zero]; rfl)
  case hsx14a => kernel_rfl
  case hfx14a => kernel_rfl
  case hrx14a => kernel_rfl
  case hQx14a => exact fun _ _ _ h => h
  case hwx14a => rfl
  simp only [Act.put, List.setIfInBounds_toArray, List.set_cons_succ, List.set_cons_zero]
  refine' wpAnyH_take (i := 15) ?h1x15a ?hsx15a ?hfx15a ?hrx15a ?hQx15a (Or.inr ⟨?hwx15a, rfl⟩) hS ?restx15a
  case h1x15a => (simp only [List.getElem?_toArray, List.getElem?_cons_succ, List.getElem?_cons_zero]; rfl)
  case hsx15a => kernel_rfl
  case hfx15a => kernel_rfl
  case hrx15a => kernel_rfl
  case hQx15a => exact fun _ _ _ h => h
  case hwx15a => rfl
  simp only [Act.put, List.setIfInBounds_toArray, List.set_cons_succ, List.set_cons_zero]
  refine' wpAnyH_take (i := 16) ?h1x16a ?hsx16a ?hfx16a ?hrx16a ?hQx16a (Or.inr ⟨?hwx16a, rfl⟩) hS ?restx16a
  case h1x16a => (simp only [List.getElem?_toArray, List.getElem?_cons_succ, List.getElem?_cons_zero]; rfl)
  case hsx16a => kernel_rfl
  case hfx16a => kernel_rfl
  case hrx16a => kernel_rfl
  case hQx16a => exact fun _ _ _ h => h
  case hwx16a => rfl
  simp only [Act.put, List.setIfInBounds_toArray, List.set_cons_succ, List.set_cons_zero]
  refine' wpAnyH_take (i := 17) ?h1x17a ?hsx17a ?hfx17a ?hrx17a ?hQx17a (Or.inr ⟨?hwx17a, rfl⟩) hS ?restx17a
  case h1x17a => (simp only [List.getElem?_toArray, List.getElem?_cons_succ, List.getElem?_cons_zero]; rfl)
  case hsx17a => kernel_rfl
  case hfx17a => kernel_rfl
  case hrx17a => kernel_rfl
  case hQx17a => exact fun _ _ _ h => h
  case hwx17a => rfl
  simp only [Act.put, List.setIfInBounds_toArray, List.set_cons_succ, List.set_cons_zero]
  refine' wpAnyH_take (i := 18) ?h1x18a ?hsx18a ?hfx18a ?hrx18a ?hQx18a (Or.inr ⟨?hwx18a, rfl⟩) hS ?restx18a
  case h1x18a => (simp only [List.getElem?_toArray, List.getElem?_cons_succ, List.getElem?_cons_zero]; rfl)
  case hsx18a => kernel_rfl
  case hfx18a => kernel_rfl
  case hrx18a => kernel_rfl
  case hQx18a => exact fun _ _ _ h => h
  case hwx18a => rfl
  simp only [Act.put, List.setIfInBounds_toArray, List.set_cons_succ, List.set_cons_zero]
  refine' wpAnyH_take (i := 19) ?h1x19a ?hsx19a ?hfx19a ?hrx19a ?hQx19a (Or.inr ⟨?hwx19a, rfl⟩) hS ?restx19a
  case h1x19a => (simp only [List.getElem?_toArray, List.getElem?_cons_succ, List.getElem?_cons_zero]; rfl)
  case hsx19a => kernel_rfl
  case hfx19a => kernel_rfl
  case hrx19a => kernel_rfl
  case hQx19a => exact fun _ _ _ h => h
  case hwx19a => rfl
  simp only [Act.put, List.setIfInBounds_toArray, List.set_cons_succ, List.set_cons_zero]
  refine' wpAnyH_take (i := 20) ?h1x20a ?hsx20a ?hfx20a ?hrx20a ?hQx20a (Or.inr ⟨?hwx20a, rfl⟩) hS ?restx20a
  case h1x20a => (simp only [List.getElem?_toArray, List.getElem?_cons_succ, List.getElem?_cons_zero]; rfl)
  case hsx20a => kernel_rfl
  case hfx20a => kernel_rfl
  case hrx20a => kernel_rfl
  case hQx20a => exact fun _ _ _ h => h
  case hwx20a => rfl
  simp only [Act.put, List.setIfInBounds_toArray, List.set_cons_succ, List.set_cons_zero]
  refine' wpAnyH_take (i := 21) ?h1x21a ?hsx21a ?hfx21a ?hrx21a ?hQx21a (Or.inr ⟨?hwx21a, rfl⟩) hS ?restx21a
  case h1x21a => (simp only [List.getElem?_toArray, List.getElem?_cons_succ, List.getElem?_cons_zero]; rfl)
  case hsx21a => kernel_rfl
  case hfx21a => kernel_rfl
  case hrx21a => kernel_rfl
  case hQx21a => exact fun _ _ _ h => h
  case hwx21a => rfl
  simp only [Act.put, List.setIfInBounds_toArray, List.set_cons_succ, List.set_cons_zero]
  refine' wpAnyH_take (i := 22) ?h1x22a ?hsx22a ?hfx22a ?hrx22a ?hQx22a (Or.inr ⟨?hwx22a, rfl⟩) hS ?restx22a
  case h1x22a => (simp only [List.getElem?_toArray, List.getElem?_cons_succ, List.getElem?_cons_zero]; rfl)
  case hsx22a => kernel_rfl
  case hfx22a => kernel_rfl
  case hrx22a => kernel_rfl
  case hQx22a => exact fun _ _ _ h => h
  case hwx22a => rfl
  simp only [Act.put, List.setIfInBounds_toArray, List.set_cons_succ, List.set_cons_zero]
  refine' wpAnyH_take (i := 23) ?h1x23a ?hsx23a ?hfx23a ?hrx23a ?hQx23a (Or.inr ⟨?hwx23a, rfl⟩) hS ?restx23a
  case h1x23a => (simp only [List.getElem?_toArray, List.getElem?_cons_succ, List.getElem?_cons_zero]; rfl)
  case hsx23a => kernel_rfl
  case hfx23a => kernel_rfl
  case hrx23a => kernel_rfl
  case hQx23a => exact fun _ _ _ h => h
  case hwx23a => rfl
  simp only [Act.put, List.setIfInBounds_toArray, List.set_cons_succ, List.set_cons_zero]
  refine' wpAnyH_take (i := 24) ?h1x24a ?hsx24a ?hfx24a ?hrx24a ?hQx24a (Or.inr ⟨?hwx24a, rfl⟩) hS ?restx24a
  case h1x24a => (simp only [List.getElem?_toArray, List.getElem?_cons_succ, List.getElem?_cons_zero]; rfl)
  case hsx24a => kernel_rfl
  case hfx24a => kernel_rfl
  case hrx24a => kernel_rfl
  case hQx24a => exact fun _ _ _ h => h
  case hwx24a => rfl
  simp only [Act.put, List.setIfInBounds_toArray, List.set_cons_succ, List.set_cons_zero]
  refine' wpAnyH_take (i := 25) ?h1x25a ?hsx25a ?hfx25a ?hrx25a ?hQx25a (Or.inr ⟨?hwx25a, rfl⟩) hS ?restx25a
  case h1x25a => (simp only [List.getElem?_toArray, List.getElem?_cons_succ, List.getElem?_cons_zero]; rfl)
  case hsx25a => kernel_rfl
  case hfx25a => kernel_rfl
  case hrx25a => kernel_rfl
  case hQx25a => exact fun _ _ _ h => h
  case hwx25a => rfl
  simp only [Act.put, List.setIfInBounds_toArray, List.set_cons_succ, List.set_cons_zero]
  refine' wpAnyH_take (i := 26) ?h1x26a ?hsx26a ?hfx26a ?hrx26a ?hQx26a (Or.inr ⟨?hwx26a, rfl⟩) hS ?restx26a
  case h1x26a => (simp only [List.getElem?_toArray, List.getElem?_cons_succ, List.getElem?_cons_zero]; rfl)
  case hsx26a => kernel_rfl
  case hfx26a => kernel_rfl
  case hrx26a => kernel_rfl
  case hQx26a => exact fun _ _ _ h => h
  case hwx26a => rfl
  simp only [Act.put, List.setIfInBounds_toArray, List.set_cons_succ, List.set_cons_zero]
  refine' wpAnyH_take (i := 27) ?h1x27a ?hsx27a ?hfx27a ?hrx27a ?hQx27a (Or.inr ⟨?hwx27a, rfl⟩) hS ?restx27a
  case h1x27a => (simp only [List.getElem?_toArray, List.getElem?_cons_succ, List.getElem?_cons_zero]; rfl)
  case hsx27a => kernel_rfl
  case hfx27a => kernel_rfl
  case hrx27a => kernel_rfl
  case hQx27a => exact fun _ _ _ h => h
  case hwx27a => rfl
  simp only [Act.put, List.setIfInBounds_toArray, List.set_cons_succ, List.set_cons_zero]
  refine' wpAnyH_take (i := 28) ?h1x28a ?hsx28a ?hfx28a ?hrx28a ?hQx28a (Or.inr ⟨?hwx28a, rfl⟩) hS ?restx28a
  case h1x28a => (simp only [List.getElem?_toArray, List.getElem?_cons_succ, List.getElem?_cons_zero]; rfl)
  case hsx28a => kernel_rfl
  case hfx28a => kernel_rfl
  case hrx28a => kernel_rfl
  case hQx28a => exact fun _ _ _ h => h
  case hwx28a => rfl
  simp only [Act.put, List.setIfInBounds_toArray, List.set_cons_succ, List.set_cons_zero]
  refine' wpAnyH_take (i := 29) ?h1x29a ?hsx29a ?hfx29a ?hrx29a ?hQx29a (Or.inr ⟨?hwx29a, rfl⟩) hS ?restx29a
  case h1x29a => (simp only [List.getElem?_toArray, List.getElem?_cons_succ, List.getElem?_cons_zero]; rfl)
  case hsx29a => kernel_rfl
  case hfx29a => kernel_rfl
  case hrx29a => kernel_rfl
  case hQx29a => exact fun _ _ _ h => h
  case hwx29a => rfl
  simp only [Act.put, List.setIfInBounds_toArray, List.set_cons_succ, List.set_cons_zero]
  refine' wpAnyH_take (i := 30) ?h1x30a ?hsx30a ?hfx30a ?hrx30a ?hQx30a (Or.inr ⟨?hwx30a, rfl⟩) hS ?restx30a
  case h1x30a => (simp only [List.getElem?_toArray, List.getElem?_cons_succ, List.getElem?_cons_zero]; rfl)
  case hsx30a => kernel_rfl
  case hfx30a => kernel_rfl
  case hrx30a => kernel_rfl
  case hQx30a => exact fun _ _ _ h => h
  case hwx30a => rfl
  simp only [Act.put, List.setIfInBounds_toArray, List.set_cons_succ, List.set_cons_zero]
  refine' wpAnyH_take (i := 31) ?h1x31a ?hsx31a ?hfx31a ?hrx31a ?hQx31a (Or.inr ⟨?hwx31a, rfl⟩) hS ?restx31a
  case h1x31a => (simp only [List.getElem?_toArray, List.getElem?_cons_succ, List.getElem?_cons_zero]; rfl)
  case hsx31a => kernel_rfl
  case hfx31a => kernel_rfl
  case hrx31a => kernel_rfl
  case hQx31a => exact fun _ _ _ h => h
  case hwx31a => rfl
  simp only [Act.put, List.setIfInBounds_toArray, List.set_cons_succ, List.set_cons_zero]
  refine' wpAnyH_take (i := 32) ?h1x32a ?hsx32a ?hfx32a ?hrx32a ?hQx32a (Or.inr ⟨?hwx32a, rfl⟩) hS ?restx32a
  case h1x32a => (simp only [List.getElem?_toArray, List.getElem?_cons_succ, List.getElem?_cons_zero]; rfl)
  case hsx32a => kernel_rfl
  case hfx32a => kernel_rfl
  case hrx32a => kernel_rfl
  case hQx32a => exact fun _ _ _ h => h
  case hwx32a => rfl
  simp only [Act.put, List.setIfInBounds_toArray, List.set_cons_succ, List.set_cons_zero]
  refine' wpAnyH_take (i := 33) ?h1x33a ?hsx33a ?hfx33a ?hrx33a ?hQx33a (Or.inr ⟨?hwx33a, rfl⟩) hS ?restx33a
  case h1x33a => (simp only [List.getElem?_toArray, List.getElem?_cons_succ, List.getElem?_cons_zero]; rfl)
  case hsx33a => kernel_rfl
  case hfx33a => kernel_rfl
  case hrx33a => kernel_rfl
  case hQx33a => exact fun _ _ _ h => h
  case hwx33a => rfl
  simp only [Act.put, List.setIfInBounds_toArray, List.set_cons_succ, List.set_cons_zero]
  refine' wpAnyH_take (i := 34) ?h1x34a ?hsx34a ?hfx34a ?hrx34a ?hQx34a (Or.inr ⟨?hwx34a, rfl⟩) hS ?restx34a
  case h1x34a => (simp only [List.getElem?_toArray, List.getElem?_cons_succ, List.getElem?_cons_zero]; rfl)
  case hsx34a => kernel_rfl
  case hfx34a => kernel_rfl
  case hrx34a => kernel_rfl
  case hQx34a => exact fun _ _ _ h => h
  case hwx34a => rfl
  simp only [Act.put, List.setIfInBounds_toArray, List.set_cons_succ, List.set_cons_zero]
  refine' wpAnyH_take (i := 35) ?h1x35a ?hsx35a ?hfx35a ?hrx35a ?hQx35a (Or.inr ⟨?hwx35a, rfl⟩) hS ?restx35a
  case h1x35a => (simp only [List.getElem?_toArray, List.getElem?_cons_succ, List.getElem?_cons_zero]; rfl)
  case hsx35a => kernel_rfl
  case hfx35a => kernel_rfl
  case hrx35a => kernel_rfl
  case hQx35a => exact fun _ _ _ h => h
  case hwx35a => rfl
  simp only [Act.put, List.setIfInBounds_toArray, List.set_cons_succ, List.set_cons_zero]
  refine' wpAnyH_take (i := 36) ?h1x36a ?hsx36a ?hfx36a ?hrx36a ?hQx36a (Or.inr ⟨?hwx36a, rfl⟩) hS ?restx36a
  case h1x36a => (simp only [List.getElem?_toArray, List.getElem?_cons_succ, List.getElem?_cons_zero]; rfl)
  case hsx36a => kernel_rfl
  case hfx36a => kernel_rfl
  case hrx36a => kernel_rfl
  case hQx36a => exact fun _ _ _ h => h
  case hwx36a => rfl
  simp only [Act.put, List.setIfInBounds_toArray, List.set_cons_succ, List.set_cons_zero]
  refine' wpAnyH_take (i := 37) ?h1x37a ?hsx37a ?hfx37a ?hrx37a ?hQx37a (Or.inr ⟨?hwx37a, rfl⟩) hS ?restx37a
  case h1x37a => (simp only [List.getElem?_toArray, List.getElem?_cons_succ, List.getElem?_cons_zero]; rfl)
  case hsx37a => kernel_rfl
  case hfx37a => kernel_rfl
  case hrx37a => kernel_rfl
  case hQx37a => exact fun _ _ _ h => h
  case hwx37a => rfl
  simp only [Act.put, List.setIfInBounds_toArray, List.set_cons_succ, List.set_cons_zero]
  refine' wpAnyH_take (i := 38) ?h1x38a ?hsx38a ?hfx38a ?hrx38a ?hQx38a (Or.inr ⟨?hwx38a, rfl⟩) hS ?restx38a
  case h1x38a => (simp only [List.getElem?_toArray, List.getElem?_cons_succ, List.getElem?_cons_zero]; rfl)
  case hsx38a => kernel_rfl
  case hfx38a => kernel_rfl
  case hrx38a => kernel_rfl
  case hQx38a => exact fun _ _ _ h => h
  case hwx38a => rfl
  simp only [Act.put, List.setIfInBounds_toArray, List.set_cons_succ, List.set_cons_zero]
  refine' wpAnyH_take (i := 39) ?h1x39a ?hsx39a ?hfx39a ?hrx39a ?hQx39a (Or.inr ⟨?hwx39a, rfl⟩) hS ?restx39a
  case h1x39a => (simp only [List.getElem?_toArray, List.getElem?_cons_succ, List.getElem?_cons_zero]; rfl)
  case hsx39a => kernel_rfl
  case hfx39a => kernel_rfl
  case hrx39a => kernel_rfl
  case hQx39a => exact fun _ _ _ h => h
  case hwx39a => rfl
  simp only [Act.put, List.setIfInBounds_toArray, List.set_cons_succ, List.set_cons_zero]
  refine' wpAnyH_take (i := 40) ?h1x40a ?hsx40a ?hfx40a ?hrx40a ?hQx40a (Or.inl ⟨?hwx40a, ?hyx40a⟩) hS ?restx40a
  case h1x40a => (simp only [List.getElem?_toArray, List.getElem?_cons_succ, List.getElem?_cons_zero]; rfl)
  case hsx40a => kernel_rfl
  case hfx40a => kernel_rfl
  case hrx40a => kernel_rfl
  case hQx40a => exact fun _ _ _ h => h
  case hwx40a => rfl
  case hyx40a =>
    intro W hW
    go_simp
    try with_reducible rfl
  simp only [Act.put, List.setIfInBounds_toArray, List.set_cons_succ, List.set_cons_zero]
  refine wpAnyH_done (by kernel_rfl) ?_ _
  have B0 := Lib.hid (B0.out.trans (hS.mono B0.out.size))
  have GR := Lib.hid ((hS.block _ (blk_lt GR.out)).trans GR.out)
  have Q13 := Lib.hid ((hS.block _ (blk_lt Q13.out)).trans Q13.out)
  have Q15 := Lib.hid ((hS.block _ (blk_lt Q15.out)).trans Q15.out)
  have c0z := HC0.out _ GR.out
  rw [HG.out] at c0z
  have en := EN.out
  clear hS
  go_wp2_with fail
  refine (AL.out _).mono ?_
  rintro e wl ⟨rfl, hb⟩
  have B0 := Lib.hid (B0.out.trans (hb.mono B0.out.size))
  have GR := Lib.hid ((hb.block _ (blk_lt GR.out)).trans GR.out)
  have Q13 := Lib.hid ((hb.block _ (blk_lt Q13.out)).trans Q13.out)
  have Q15 := Lib.hid ((hb.block _ (blk_lt Q15.out)).trans Q15.out)
  clear hb
  go_wp2_with (first
    | (refine wpList_load_met rfl 29 (.tmp 13) rfl w6.heap.size rfl 29 CN (0, 0) _ Q13.out Try.underlying29 ⟨_, rfl⟩ IN.out ?_)
    | (refine wpList_blank_met rfl 29 rfl (BH.out _) ?_))
  go_ret
  exact ⟨rfl, B0.out⟩
theorem walk (H : Hd) (hH : H.ok) (v : Value) (bs : List Int) (w : World) (h : Sees w v bs) :
    Calls Try.prog 3 #[.agg (hcells H), v] w fun e w' => e = .returned (.bool true) ∧ Below w.heap.size w w' := by
  by_cases hl : bs.length ≤ 1000
  · by_cases hg : H.g = 18446744073709551615
    · rcases hRe_03 bs with hr | hr
      · exact walk_ok_max H hH v bs hl w h hr hg
      · exact walk_bad_max H hH v bs hl w h hr hg
    · rcases hRe_03 bs with hr | hr
      · exact walk_ok_next H hH v bs hl w h hr hg
      · exact walk_bad_next H hH v bs hl w h hr hg
  · obtain ⟨x, cap, rfl, h63⟩ := h.form
    exact walk_great _ x _ cap h63 (by omega) w

set_option maxRecDepth 100000 in
theorem lifted (os : Os) (started : os.Started) (H : Type) (enc : TypeId × Value → H) :
    ReturnsInHanded {} Try.checked os 3 .any (Rows.superHeadsSpec.pre6 enc Try.prog Try.f3 Rows.superHeadsRow.domain false) (Rows.superHeadsSpec.post enc Try.prog Try.f3 false true false false) := by
  refine returnsInHanded_of_change (C := Try.checked) own started (by kernel_rfl) Try.func3
    (ChangeSpec.witness6 (enc := enc) (C := Try.checked) false ⟨#[], #[.agg (hcells H0), .slice none 0 0], []⟩ 8 (by kernel_rfl) (by kernel_rfl) (by kernel_rfl) (by kernel_rfl)) ?_
  intro W base args ds gs before hval0 hW hcnd _
  have hval : ∀ (j : Nat) t v, Try.f3.params[j]? = some t → args[j]? = some v → Value.okWide Try.prog W .any base t v := hval0
  have hW' := hW
  obtain ⟨p, q, hA0, hV, rfl, hfz, hnd⟩ := hW
  have hA : DataW.TrodAll enc Try.prog W 0 (fun _ => true) true Try.f3.params.toList args.toList ds p := hA0
  rw [Try.params3] at hA hval
  obtain ⟨v0, vs0, d0, ds0, p0, q0, hargs, rfl, rfl, h0, r0⟩ := trodAll_cons hA
  obtain ⟨v1, vs1, d1, ds1, p1, q1, rfl, rfl, rfl, h1, r1⟩ := trodAll_cons r0
  obtain ⟨rfl, rfl, rfl⟩ := trodAll_nil r1
  obtain rfl : args = #[v0, v1] := by cases args; simp_all
  obtain ⟨rfl, rfl⟩ := trodVars_none hV
  obtain ⟨H0x, hH0, rfl⟩ := open_head (hval 0 29 v0 rfl rfl) h0
  obtain ⟨x1, s1⟩ := open_sees (hval 1 30 v1 rfl rfl) h1
  refine (walk H0x hH0 v1 x1 W s1).mono fun e W' ⟨he, hb⟩ => ?_
  subst he
  exact ⟨_, rfl, law_post hW' rfl rfl rfl (by kernel_rfl) hb⟩

/-- The statement. -/
theorem proved : Rows.SuperHeadsSaid :=
  OpenClaim.holds_of_wide 3 Try.f3 rfl rfl rfl rfl rfl rfl rfl ⟨rfl, rfl, rfl, rfl, rfl⟩ rfl rfl rfl rfl rfl (by kernel_rfl) Try.func3 (by kernel_rfl)
    (of_decide_eq_true (by kernel_rfl)) (by unfold Func.isWrapper; first | (rw [if_pos (by decide +kernel)]; kernel_rfl) | (rw [if_neg (by decide +kernel)]; exact ⟨rfl, rfl⟩))
    (fun os started H enc _ => lifted os started H enc)
#print axioms proved
end Go.Proofs.Ytplffbpnjnbolaa.superHeads
