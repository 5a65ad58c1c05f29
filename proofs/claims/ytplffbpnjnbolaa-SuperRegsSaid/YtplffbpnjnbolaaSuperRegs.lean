/-
  For every register and all 64 bytes the law SuperRegs of package casematelaw19 returns true, and they read afterwards as before: which registers may be, the bytes of each, and the register that any bytes are, is told. Condition: none.
-/
import Derived.Test.YtplffbpnjnbolaaSuM
namespace Go.Proofs.Ytplffbpnjnbolaa.superRegs
open Go.ChangeShapes Go.WideShapes Go.ChangeAt Go.RowKit
set_option maxRecDepth 100000 in
set_option maxHeartbeats 16000000 in
theorem walk_ok (R : Rg) (hR : R.ok) (bs : List Int) (hb : Byt bs) (lb : bs.length = 64) (w : World) (hr : gRe bs = 0) :
    Calls Try.prog 4 #[.agg (gcells R), .agg (bcells bs)] w fun e w' => e = .returned (.bool true) ∧ Below w.heap.size w w' := by
  have hz46 := z46
  have hz47 := z47
  have hz52 : ∀ w : World, (zeroValue 52).run Try.prog w = .ok (.agg Qz) w := z52
  have WG : Hid (∀ W, Calls Try.prog 18 #[.agg (gcells R)] W fun e w' => e = .returned (.tuple #[.agg (bcells (gV R)), .int .i64 (gE R)]) ∧ Below W.heap.size W w') := fun W => writeG R hR W
  have AG : Hid (∀ W, Calls Try.prog 20 #[.agg (gcells R)] W (AsGP W R)) := fun W => asG R hR W
  have DG : Hid (∀ x c W, Sees W (.slice x 32 c) R.z → Calls Try.prog 19 #[.agg (qcells (.slice x 32 c) R.g R.e R.k)] W (RefWGP W R)) := fun x c W hs => refWG R hR x c W hs
  have RB : Hid (∀ W, Calls Try.prog 21 #[.agg (bcells bs)] W fun e w' => e = .returned (.tuple #[.agg (gcells (gR bs)), .int .i64 0]) ∧ Below W.heap.size W w') := fun W => by
    have := readG bs hb lb W
    unfold ReadGP gRv at this
    rw [hr, if_pos rfl] at this
    exact this
  have RD : Hid (∀ b W, Sees W (.slice (some ⟨b, 0, none⟩) 64 64) bs → Calls Try.prog 22 #[.slice (some ⟨b, 0, none⟩) 64 64] W fun e w' => ∃ x c, e = .returned (.tuple #[.agg (qcells (.slice x 32 c) (gR bs).g (gR bs).e (gR bs).k), .int .i64 0]) ∧ Sees w' (.slice x 32 c) (gR bs).z ∧ Below W.heap.size W w') := fun b W h =>
    (refRG b 0 64 bs lb (by decide) (by decide) W h).mono fun e w' hh => by
      obtain ⟨⟨_, x, c, he, hs⟩ | ⟨e3, _⟩, hb⟩ := hh
      · exact ⟨x, c, he, hs, hb⟩
      · exact absurd hr e3
  have hPok : (gR bs).ok := gR_ok hb lb
  have IR := Lib.hid (i46 hR.2.2.2.2)
  have IB := Lib.hid (i47 lb)
  have VL := Lib.hid (gV_len (R := R) hR.2.2.2.2)
  have VB := Lib.hid (gV_byt (R := R) hR.2.2.2.1)
  have IV := Lib.hid (i47 VL.out)
  have OV := Lib.hid (one_cells (gV R))
  have ZV := Lib.hid (bcells_sz (show (zs 64).length = (gV R).length from (zs_len 64).trans VL.out.symm))
  have IP := Lib.hid (i46 hPok.2.2.2.2)
  have OP := Lib.hid (one_gcells (gR bs))
  have ZP : Hid ((gcells G0).size = (gcells (gR bs)).size) := (gcells_size (R := G0) (zs_len 32)).trans (gcells_size hPok.2.2.2.2).symm
  have PZ : Hid (Byt (gR bs).z ∧ (gR bs).z.length = 32) := hPok.2.2.2
  have BG := Lib.hid bld46
  have EV : Hid (((strOfNums (gV R)).toList == (strOfNums (gV R)).toList) = true) := beq_self_eq_true _
  have EP : Hid (((strOfNums (gR bs).z).toList == (strOfNums (gR bs).z).toList) = true) := beq_self_eq_true _
  have EG : Hid (∀ W, (Op.equalIn 10000 46 (.agg (gcells G0)) (.agg (gcells G0))).run Try.prog W = .ok true W) := fun W => by rw [eq46 G0 G0 (zs_byt _) (zs_byt _) (zs_len _) (zs_len _) W, decide_eq_true ⟨rfl, rfl, rfl, rfl⟩]
  have VS : Hid (∀ (W : World) (b : Nat), W.heap[b]? = some (.cells (bcells (gV R)) 47 (0, 0)) → Sees W (.slice (some ⟨b, 0, none⟩) 64 64) (gV R)) := fun W b h => sees_rowT W b 47 _ VB.out (by rw [VL.out]; decide) h _ VL.out.symm
  have AL := Lib.hid alive19
  generalize gR bs = P at *
  obtain ⟨W0, hW0⟩ : ∃ W0, W0 = (w.alloc (.cells (gcells R) 46)).alloc (.cells (bcells bs) 47) := ⟨_, rfl⟩
  have B0 : Hid (Below w.heap.size w W0) := by rw [hW0]; exact ((Below.refl _ _).alloc (Nat.le_refl _) _).alloc (by simp) _
  have GR : Hid (W0.heap[w.heap.size]? = some (.cells (gcells R) 46 (0, 0))) := by show _ = _; rw [hW0, Below.heap_alloc _ _ _ (by simp)]; exact heap_alloc_new w _
  have GB : Hid (W0.heap[w.heap.size + 1]? = some (.cells (bcells bs) 47 (0, 0))) := by show _ = _; rw [hW0]; exact heap_alloc2_new w _ _
  have SB : Hid (Sees W0 (.slice (some ⟨w.heap.size + 1, 0, none⟩) 64 64) bs) := sees_rowT W0 _ 47 bs hb (by rw [lb]; decide) GB.out _ lb.symm
  have HW0 := Lib.hid hW0
  clear hW0 hR hb lb hPok hr
  generalize gcells R = CR at *
  generalize bcells bs = CB at *
  generalize bcells (gV R) = CV at *
  generalize bcells (zs 64) = Z6 at *
  generalize gcells G0 = ZG at *
  
  go_enter Try.func4, Try.ntmps4
  go_wp2_with (refine wpList_load_row rfl 46 (.tmp 2) rfl w.heap.size rfl 46 CR (0, 0) _ (by rw [← HW0.out]; exact GR.out) Try.underlying46 rfl IR.out ?_)
  rw [← HW0.out]
  refine (WG.out _).mono ?_
  rintro e w1 ⟨rfl, hb⟩
  have B0 := Lib.hid (B0.out.trans (hb.mono B0.out.size))
  have GR := Lib.hid ((hb.block _ (blk_lt GR.out)).trans GR.out)
  have GB := Lib.hid ((hb.block _ (blk_lt GB.out)).trans GB.out)
  have SB := Lib.hid (SB.out.below hb)
  clear hb
  have Av1 := Lib.hid (heap_alloc_new w1 (.cells Z6 47))
  have Ev1 := Lib.hid (alloc_setRowT w1 Z6 CV 47 _ rfl)
  have Q5 := Lib.hid (heap_alloc_new w1 (.cells CV 47))
  have halv1 : Below w1.heap.size w1 (w1.alloc (.cells CV 47)) := (Below.refl _ _).alloc (Nat.le_refl _) _
  have B0 := Lib.hid (B0.out.trans (halv1.mono B0.out.size))
  have GR := Lib.hid ((halv1.block _ (blk_lt GR.out)).trans GR.out)
  have GB := Lib.hid ((halv1.block _ (blk_lt GB.out)).trans GB.out)
  have SB := Lib.hid (SB.out.below halv1)
  clear halv1
  go_wp2_with (first
    | (refine wpList_store_row rfl 47 (.tmp 5) (.tmp 16) rfl w1.heap.size CV rfl rfl 47 Z6 Av1.out IV.out ZV.out OV.out ?_; rw [Ev1.out])
    | (refine wpList_load_row rfl 46 (.tmp 2) rfl w.heap.size rfl 46 CR (0, 0) _ GR.out Try.underlying46 rfl IR.out ?_))
  clear Av1 Ev1
  generalize w1.alloc (.cells CV 47) = v1 at *
  generalize w1.heap.size = g5 at *
  refine (AG.out _).mono ?_
  rintro e w2 ⟨xa, ca, rfl, hs, hb⟩
  have B0 := Lib.hid (B0.out.trans (hb.mono B0.out.size))
  have GR := Lib.hid ((hb.block _ (blk_lt GR.out)).trans GR.out)
  have GB := Lib.hid ((hb.block _ (blk_lt GB.out)).trans GB.out)
  have SB := Lib.hid (SB.out.below hb)
  have Q5 := Lib.hid ((hb.block _ (blk_lt Q5.out)).trans Q5.out)
  have SA := Lib.hid hs
  clear hs
  clear hb
  go_wp2_with fail
  refine (DG.out _ _ _ SA.out).mono ?_
  rintro e w3 ⟨u2, rfl, hs, hb⟩
  have B0 := Lib.hid (B0.out.trans (hb.mono B0.out.size))
  have GR := Lib.hid ((hb.block _ (blk_lt GR.out)).trans GR.out)
  have GB := Lib.hid ((hb.block _ (blk_lt GB.out)).trans GB.out)
  have SB := Lib.hid (SB.out.below hb)
  have Q5 := Lib.hid ((hb.block _ (blk_lt Q5.out)).trans Q5.out)
  have SA := Lib.hid (SA.out.below hb)
  have S2 := Lib.hid hs
  obtain ⟨ux2, uc2, rfl, _⟩ := hs.form
  clear hs
  clear hb
  go_wp2_with (refine wpList_load_row rfl 47 (.tmp 3) rfl (w.heap.size + 1) rfl 47 CB (0, 0) _ GB.out Try.underlying47 rfl IB.out ?_)
  refine (RB.out _).mono ?_
  rintro e w4 ⟨rfl, hb⟩
  have B0 := Lib.hid (B0.out.trans (hb.mono B0.out.size))
  have GR := Lib.hid ((hb.block _ (blk_lt GR.out)).trans GR.out)
  have GB := Lib.hid ((hb.block _ (blk_lt GB.out)).trans GB.out)
  have SB := Lib.hid (SB.out.below hb)
  have Q5 := Lib.hid ((hb.block _ (blk_lt Q5.out)).trans Q5.out)
  have S2 := Lib.hid (S2.out.below hb)
  clear hb
  have Av4 := Lib.hid (heap_alloc_new w4 (.cells ZG 46))
  have Ev4 := Lib.hid (alloc_setRowT w4 ZG (gcells P) 46 _ rfl)
  have Q9 := Lib.hid (heap_alloc_new w4 (.cells (gcells P) 46))
  have halv4 : Below w4.heap.size w4 (w4.alloc (.cells (gcells P) 46)) := (Below.refl _ _).alloc (Nat.le_refl _) _
  have B0 := Lib.hid (B0.out.trans (halv4.mono B0.out.size))
  have GR := Lib.hid ((halv4.block _ (blk_lt GR.out)).trans GR.out)
  have GB := Lib.hid ((halv4.block _ (blk_lt GB.out)).trans GB.out)
  have SB := Lib.hid (SB.out.below halv4)
  have Q5 := Lib.hid ((halv4.block _ (blk_lt Q5.out)).trans Q5.out)
  have S2 := Lib.hid (S2.out.below halv4)
  clear halv4
  go_wp2_with (first
    | (refine wpList_store_row rfl 46 (.tmp 9) (.tmp 27) rfl w4.heap.size (gcells P) rfl rfl 46 ZG Av4.out IP.out ZP.out OP.out ?_; rw [Ev4.out]))
  clear Av4 Ev4
  generalize w4.alloc (.cells (gcells P) 46) = v4 at *
  generalize w4.heap.size = g9 at *
  refine (RD.out _ _ SB.out).mono ?_
  rintro e w5 ⟨xq, cq, rfl, hs, hb⟩
  have B0 := Lib.hid (B0.out.trans (hb.mono B0.out.size))
  have GR := Lib.hid ((hb.block _ (blk_lt GR.out)).trans GR.out)
  have GB := Lib.hid ((hb.block _ (blk_lt GB.out)).trans GB.out)
  have SB := Lib.hid (SB.out.below hb)
  have Q5 := Lib.hid ((hb.block _ (blk_lt Q5.out)).trans Q5.out)
  have S2 := Lib.hid (S2.out.below hb)
  have Q9 := Lib.hid ((hb.block _ (blk_lt Q9.out)).trans Q9.out)
  have SQ := Lib.hid hs
  clear hs
  clear hb
  have ID := Lib.hid (i52 P.g P.e P.k (.slice xq 32 cq))
  have OD := Lib.hid (one_qcells P.g P.e P.k xq 32 cq)
  have ZD : Hid (Qz.size = (qcells (.slice xq 32 cq) P.g P.e P.k).size) := rfl
  have Av5 := Lib.hid (heap_alloc_new w5 (.cells Qz 52))
  have Ev5 := Lib.hid (alloc_setRowT w5 Qz (qcells (.slice xq 32 cq) P.g P.e P.k) 52 _ rfl)
  have Q11 := Lib.hid (heap_alloc_new w5 (.cells (qcells (.slice xq 32 cq) P.g P.e P.k) 52))
  have halv5 : Below w5.heap.size w5 (w5.alloc (.cells (qcells (.slice xq 32 cq) P.g P.e P.k) 52)) := (Below.refl _ _).alloc (Nat.le_refl _) _
  have B0 := Lib.hid (B0.out.trans (halv5.mono B0.out.size))
  have GR := Lib.hid ((halv5.block _ (blk_lt GR.out)).trans GR.out)
  have GB := Lib.hid ((halv5.block _ (blk_lt GB.out)).trans GB.out)
  have SB := Lib.hid (SB.out.below halv5)
  have Q5 := Lib.hid ((halv5.block _ (blk_lt Q5.out)).trans Q5.out)
  have S2 := Lib.hid (S2.out.below halv5)
  have Q9 := Lib.hid ((halv5.block _ (blk_lt Q9.out)).trans Q9.out)
  have SQ := Lib.hid (SQ.out.below halv5)
  clear halv5
  go_wp2_with (first
    | (refine wpList_store_row rfl 52 (.tmp 11) (.tmp 32) rfl w5.heap.size (qcells (.slice xq 32 cq) P.g P.e P.k) rfl rfl 52 Qz Av5.out ID.out ZD.out OD.out ?_; rw [Ev5.out]))
  clear Av5 Ev5
  generalize w5.alloc (.cells (qcells (.slice xq 32 cq) P.g P.e P.k) 52) = v5 at *
  generalize w5.heap.size = g11 at *
  refine wp_region_held_drew (S := fun W => Below v5.heap.size v5 W) (by kernel_rfl) (Below.refl _ _).drew (fun hS => ?_)
  refine' wpAnyH_take (i := 0) ?h1x0a ?hsx0a ?hfx0a ?hrx0a ?hQx0a (Or.inl ⟨?hwx0a, ?hyx0a⟩) hS ?restx0a
  case h1x0a => (simp only [List.getElem?_toArray, List.getElem?_cons_zero]; rfl)
  case hsx0a => kernel_rfl
  case hfx0a => kernel_rfl
  case hrx0a => kernel_rfl
  case hQx0a => exact fun _ _ _ h => h
  case hwx0a => rfl
  case hyx0a =>
    intro W hW
    go_simp
    try with_reducible rfl
  simp only [Act.put, List.setIfInBounds_toArray, List.set_cons_succ, List.set_cons_zero]
  refine' wpAnyH_take (i := 1) ?h1x1a ?hsx1a ?hfx1a ?hrx1a ?hQx1a (Or.inl ⟨?hwx1a, ?hyx1a⟩) hS ?restx1a
  case h1x1a => (simp only [List.getElem?_toArray, List.getElem?_cons_succ, List.getElem?_cons_zero]; rfl)
  case hsx1a => kernel_rfl
  case hfx1a => kernel_rfl
  case hrx1a => kernel_rfl
  case hQx1a => exact fun _ _ _ h => h
  case hwx1a => rfl
  case hyx1a =>
    intro W hW
    have dd := (VS.out _ _ ((hW.block _ (blk_lt Q5.out)).trans Q5.out)).str
    go_simp
    try with_reducible rfl
  simp only [Act.put, List.setIfInBounds_toArray, List.set_cons_succ, List.set_cons_zero]
  refine' wpAnyH_take (i := 2) ?h1x2a ?hsx2a ?hfx2a ?hrx2a ?hQx2a (Or.inl ⟨?hwx2a, ?hyx2a⟩) hS ?restx2a
  case h1x2a => (simp only [List.getElem?_toArray, List.getElem?_cons_succ, List.getElem?_cons_zero]; rfl)
  case hsx2a => kernel_rfl
  case hfx2a => kernel_rfl
  case hrx2a => kernel_rfl
  case hQx2a => exact fun _ _ _ h => h
  case hwx2a => rfl
  case hyx2a =>
    intro W hW
    go_simp
    try with_reducible rfl
  simp only [Act.put, List.setIfInBounds_toArray, List.set_cons_succ, List.set_cons_zero]
  refine' wpAnyH_take (i := 3) ?h1x3a ?hsx3a ?hfx3a ?hrx3a ?hQx3a (Or.inl ⟨?hwx3a, ?hyx3a⟩) hS ?restx3a
  case h1x3a => (simp only [List.getElem?_toArray, List.getElem?_cons_succ, List.getElem?_cons_zero]; rfl)
  case hsx3a => kernel_rfl
  case hfx3a => kernel_rfl
  case hrx3a => kernel_rfl
  case hQx3a => exact fun _ _ _ h => h
  case hwx3a => rfl
  case hyx3a =>
    intro W hW
    have dd := (S2.out.below hW).str
    go_simp
    try with_reducible rfl
  simp only [Act.put, List.setIfInBounds_toArray, List.set_cons_succ, List.set_cons_zero]
  refine' wpAnyH_take (i := 4) ?h1x4a ?hsx4a ?hfx4a ?hrx4a ?hQx4a (Or.inl ⟨?hwx4a, ?hyx4a⟩) hS ?restx4a
  case h1x4a => (simp only [List.getElem?_toArray, List.getElem?_cons_succ, List.getElem?_cons_zero]; rfl)
  case hsx4a => kernel_rfl
  case hfx4a => kernel_rfl
  case hrx4a => kernel_rfl
  case hQx4a => exact fun _ _ _ h => h
  case hwx4a => rfl
  case hyx4a =>
    intro W hW
    have dd := EV.out
    go_simp
    try with_reducible rfl
  simp only [Act.put, List.setIfInBounds_toArray, List.set_cons_succ, List.set_cons_zero]
  refine' wpAnyH_take (i := 5) ?h1x5a ?hsx5a ?hfx5a ?hrx5a ?hQx5a (Or.inl ⟨?hwx5a, ?hyx5a⟩) hS ?restx5a
  case h1x5a => (simp only [List.getElem?_toArray, List.getElem?_cons_succ, List.getElem?_cons_zero]; rfl)
  case hsx5a => kernel_rfl
  case hfx5a => kernel_rfl
  case hrx5a => kernel_rfl
  case hQx5a => exact fun _ _ _ h => h
  case hwx5a => rfl
  case hyx5a =>
    intro W hW
    go_simp
    try with_reducible rfl
  simp only [Act.put, List.setIfInBounds_toArray, List.set_cons_succ, List.set_cons_zero]
  refine' wpAnyH_take (i := 6) ?h1x6a ?hsx6a ?hfx6a ?hrx6a ?hQx6a (Or.inl ⟨?hwx6a, ?hyx6a⟩) hS ?restx6a
  case h1x6a => (simp only [List.getElem?_toArray, List.getElem?_cons_succ, List.getElem?_cons_zero]; rfl)
  case hsx6a => kernel_rfl
  case hfx6a => kernel_rfl
  case hrx6a => kernel_rfl
  case hQx6a => exact fun _ _ _ h => h
  case hwx6a => rfl
  case hyx6a =>
    intro W hW
    go_simp
    try with_reducible rfl
  simp only [Act.put, List.setIfInBounds_toArray, List.set_cons_succ, List.set_cons_zero]
  refine' wpAnyH_take (i := 7) ?h1x7a ?hsx7a ?hfx7a ?hrx7a ?hQx7a (Or.inl ⟨?hwx7a, ?hyx7a⟩) hS ?restx7a
  case h1x7a => (simp only [List.getElem?_toArray, List.getElem?_cons_succ, List.getElem?_cons_zero]; rfl)
  case hsx7a => kernel_rfl
  case hfx7a => kernel_rfl
  case hrx7a => kernel_rfl
  case hQx7a => exact fun _ _ _ h => h
  case hwx7a => rfl
  case hyx7a =>
    intro W hW
    go_simp
    try with_reducible rfl
  simp only [Act.put, List.setIfInBounds_toArray, List.set_cons_succ, List.set_cons_zero]
  refine' wpAnyH_take (i := 8) ?h1x8a ?hsx8a ?hfx8a ?hrx8a ?hQx8a (Or.inl ⟨?hwx8a, ?hyx8a⟩) hS ?restx8a
  case h1x8a => (simp only [List.getElem?_toArray, List.getElem?_cons_succ, List.getElem?_cons_zero]; rfl)
  case hsx8a => kernel_rfl
  case hfx8a => kernel_rfl
  case hrx8a => kernel_rfl
  case hQx8a => exact fun _ _ _ h => h
  case hwx8a => rfl
  case hyx8a =>
    intro W hW
    go_simp
    try with_reducible rfl
  simp only [Act.put, List.setIfInBounds_toArray, List.set_cons_succ, List.set_cons_zero]
  refine' wpAnyH_take (i := 9) ?h1x9a ?hsx9a ?hfx9a ?hrx9a ?hQx9a (Or.inl ⟨?hwx9a, ?hyx9a⟩) hS ?restx9a
  case h1x9a => (simp only [List.getElem?_toArray, List.getElem?_cons_succ, List.getElem?_cons_zero]; rfl)
  case hsx9a => kernel_rfl
  case hfx9a => kernel_rfl
  case hrx9a => kernel_rfl
  case hQx9a => exact fun _ _ _ h => h
  case hwx9a => rfl
  case hyx9a =>
    intro W hW
    go_simp
    try with_reducible rfl
  simp only [Act.put, List.setIfInBounds_toArray, List.set_cons_succ, List.set_cons_zero]
  refine' wpAnyH_take (i := 10) ?h1x10a ?hsx10a ?hfx10a ?hrx10a ?hQx10a (Or.inl ⟨?hwx10a, ?hyx10a⟩) hS ?restx10a
  case h1x10a => (simp only [List.getElem?_toArray, List.getElem?_cons_succ, List.getElem?_cons_zero]; rfl)
  case hsx10a => kernel_rfl
  case hfx10a => kernel_rfl
  case hrx10a => kernel_rfl
  case hQx10a => exact fun _ _ _ h => h
  case hwx10a => rfl
  case hyx10a =>
    intro W hW
    go_simp
    try with_reducible rfl
  simp only [Act.put, List.setIfInBounds_toArray, List.set_cons_succ, List.set_cons_zero]
  refine' wpAnyH_take (i := 11) ?h1x11a ?hsx11a ?hfx11a ?hrx11a ?hQx11a (Or.inl ⟨?hwx11a, ?hyx11a⟩) hS ?restx11a
  case h1x11a => (simp only [List.getElem?_toArray, List.getElem?_cons_succ, List.getElem?_cons_zero]; rfl)
  case hsx11a => kernel_rfl
  case hfx11a => kernel_rfl
  case hrx11a => kernel_rfl
  case hQx11a => exact fun _ _ _ h => h
  case hwx11a => rfl
  case hyx11a =>
    intro W hW
    go_simp
    try with_reducible rfl
  simp only [Act.put, List.setIfInBounds_toArray, List.set_cons_succ, List.set_cons_zero]
  refine' wpAnyH_take (i := 12) ?h1x12a ?hsx12a ?hfx12a ?hrx12a ?hQx12a (Or.inl ⟨?hwx12a, ?hyx12a⟩) hS ?restx12a
  case h1x12a => (simp only [List.getElem?_toArray, List.getElem?_cons_succ, List.getElem?_cons_zero]; rfl)
  case hsx12a => kernel_rfl
  case hfx12a => kernel_rfl
  case hrx12a => kernel_rfl
  case hQx12a => exact fun _ _ _ h => h
  case hwx12a => rfl
  case hyx12a =>
    intro W hW
    go_simp
    try with_reducible rfl
  simp only [Act.put, List.setIfInBounds_toArray, List.set_cons_succ, List.set_cons_zero]
  refine' wpAnyH_take (i := 13) ?h1x13a ?hsx13a ?hfx13a ?hrx13a ?hQx13a (Or.inl ⟨?hwx13a, ?hyx13a⟩) hS ?restx13a
  case h1x13a => (simp only [List.getElem?_toArray, List.getElem?_cons_succ, List.getElem?_cons_zero]; rfl)
  case hsx13a => kernel_rfl
  case hfx13a => kernel_rfl
  case hrx13a => kernel_rfl
  case hQx13a => exact fun _ _ _ h => h
  case hwx13a => rfl
  case hyx13a =>
    intro W hW
    go_simp
    try with_reducible rfl
  simp only [Act.put, List.setIfInBounds_toArray, List.set_cons_succ, List.set_cons_zero]
  refine' wpAnyH_take (i := 14) ?h1x14a ?hsx14a ?hfx14a ?hrx14a ?hQx14a (Or.inl ⟨?hwx14a, ?hyx14a⟩) hS ?restx14a
  case h1x14a => (simp only [List.getElem?_toArray, List.getElem?_cons_succ, List.getElem?_cons_zero]; rfl)
  case hsx14a => kernel_rfl
  case hfx14a => kernel_rfl
  case hrx14a => kernel_rfl
  case hQx14a => exact fun _ _ _ h => h
  case hwx14a => rfl
  case hyx14a =>
    intro W hW
    go_simp
    try with_reducible rfl
  simp only [Act.put, List.setIfInBounds_toArray, List.set_cons_succ, List.set_cons_zero]
  refine wpAnyH_done (by kernel_rfl) ?_ _
  have B0 := Lib.hid (B0.out.trans (hS.mono B0.out.size))
  have GR := Lib.hid ((hS.block _ (blk_lt GR.out)).trans GR.out)
  have GB := Lib.hid ((hS.block _ (blk_lt GB.out)).trans GB.out)
  have SB := Lib.hid (SB.out.below hS)
  have Q5 := Lib.hid ((hS.block _ (blk_lt Q5.out)).trans Q5.out)
  have S2 := Lib.hid (S2.out.below hS)
  have Q9 := Lib.hid ((hS.block _ (blk_lt Q9.out)).trans Q9.out)
  have SQ := Lib.hid (SQ.out.below hS)
  have Q11 := Lib.hid ((hS.block _ (blk_lt Q11.out)).trans Q11.out)
  clear hS
  go_wp2_with fail
  refine wp_region_held_drew (S := fun W => Below v5.drew.heap.size v5.drew W) (by kernel_rfl) (Below.refl _ _).drew (fun hS => ?_)
  refine wpAnyH_ready (rs := [0]) (by kernel_rfl) (by simp) ?_
  refine' AllReadyH.cons ?hoc0b (fun K hK => ?stc0b) AllReadyH.nil
  case hoc0b => (simp only [List.getElem?_toArray, List.getElem?_cons_zero]; rfl)
  go_simp
  refine (AL.out _).mono ?_
  rintro e wkb1 ⟨rfl, hb⟩
  go_wp2_with fail
  refine hK.out _ _ (hS.trans (hb.mono hS.size)) (fun hHeld => ?_)
  clear hK K
  try simp only [Act.put, List.setIfInBounds_toArray, List.set_cons_succ, List.set_cons_zero]
  have B0 := Lib.hid (B0.out.trans (hHeld.mono B0.out.size))
  have GR := Lib.hid ((hHeld.block _ (blk_lt GR.out)).trans GR.out)
  have GB := Lib.hid ((hHeld.block _ (blk_lt GB.out)).trans GB.out)
  have SB := Lib.hid (SB.out.below hHeld)
  have Q5 := Lib.hid ((hHeld.block _ (blk_lt Q5.out)).trans Q5.out)
  have S2 := Lib.hid (S2.out.below hHeld)
  have Q9 := Lib.hid ((hHeld.block _ (blk_lt Q9.out)).trans Q9.out)
  have SQ := Lib.hid (SQ.out.below hHeld)
  have Q11 := Lib.hid ((hHeld.block _ (blk_lt Q11.out)).trans Q11.out)
  refine wpAnyH_mono (S' := fun W => Below wkb1.heap.size wkb1 W) (fun _ h => hHeld.trans (h.mono hHeld.size)) _ _ _ _ ?_
  clear hS hb hHeld
  have hS : Below wkb1.heap.size wkb1 wkb1 := Below.refl _ _
  refine' wpAnyH_take (i := 1) ?h1x1b ?hsx1b ?hfx1b ?hrx1b ?hQx1b (Or.inl ⟨?hwx1b, ?hyx1b⟩) hS ?restx1b
  case h1x1b => (simp only [List.getElem?_toArray, List.getElem?_cons_succ, List.getElem?_cons_zero]; rfl)
  case hsx1b => kernel_rfl
  case hfx1b => kernel_rfl
  case hrx1b => kernel_rfl
  case hQx1b => exact fun _ _ _ h => h
  case hwx1b => rfl
  case hyx1b =>
    intro W hW
    go_simp
    try with_reducible rfl
  simp only [Act.put, List.setIfInBounds_toArray, List.set_cons_succ, List.set_cons_zero]
  refine' wpAnyH_take (i := 2) ?h1x2b ?hsx2b ?hfx2b ?hrx2b ?hQx2b (Or.inl ⟨?hwx2b, ?hyx2b⟩) hS ?restx2b
  case h1x2b => (simp only [List.getElem?_toArray, List.getElem?_cons_succ, List.getElem?_cons_zero]; rfl)
  case hsx2b => kernel_rfl
  case hfx2b => kernel_rfl
  case hrx2b => kernel_rfl
  case hQx2b => exact fun _ _ _ h => h
  case hwx2b => rfl
  case hyx2b =>
    intro W hW
    go_simp
    try with_reducible rfl
  simp only [Act.put, List.setIfInBounds_toArray, List.set_cons_succ, List.set_cons_zero]
  refine' wpAnyH_take (i := 3) ?h1x3b ?hsx3b ?hfx3b ?hrx3b ?hQx3b (Or.inl ⟨?hwx3b, ?hyx3b⟩) hS ?restx3b
  case h1x3b => (simp only [List.getElem?_toArray, List.getElem?_cons_succ, List.getElem?_cons_zero]; rfl)
  case hsx3b => kernel_rfl
  case hfx3b => kernel_rfl
  case hrx3b => kernel_rfl
  case hQx3b => exact fun _ _ _ h => h
  case hwx3b => rfl
  case hyx3b =>
    intro W hW
    have dd := (gcell PZ.out.2 ((hW.block _ (blk_lt Q9.out)).trans Q9.out)).1
    go_simp
    try with_reducible rfl
  simp only [Act.put, List.setIfInBounds_toArray, List.set_cons_succ, List.set_cons_zero]
  refine' wpAnyH_take (i := 4) ?h1x4b ?hsx4b ?hfx4b ?hrx4b ?hQx4b (Or.inl ⟨?hwx4b, ?hyx4b⟩) hS ?restx4b
  case h1x4b => (simp only [List.getElem?_toArray, List.getElem?_cons_succ, List.getElem?_cons_zero]; rfl)
  case hsx4b => kernel_rfl
  case hfx4b => kernel_rfl
  case hrx4b => kernel_rfl
  case hQx4b => exact fun _ _ _ h => h
  case hwx4b => rfl
  case hyx4b =>
    intro W hW
    go_simp
    try with_reducible rfl
  simp only [Act.put, List.setIfInBounds_toArray, List.set_cons_succ, List.set_cons_zero]
  refine' wpAnyH_take (i := 5) ?h1x5b ?hsx5b ?hfx5b ?hrx5b ?hQx5b (Or.inl ⟨?hwx5b, ?hyx5b⟩) hS ?restx5b
  case h1x5b => (simp only [List.getElem?_toArray, List.getElem?_cons_succ, List.getElem?_cons_zero]; rfl)
  case hsx5b => kernel_rfl
  case hfx5b => kernel_rfl
  case hrx5b => kernel_rfl
  case hQx5b => exact fun _ _ _ h => h
  case hwx5b => rfl
  case hyx5b =>
    intro W hW
    have dd := (qcell ((hW.block _ (blk_lt Q11.out)).trans Q11.out)).2.1
    go_simp
    try with_reducible rfl
  simp only [Act.put, List.setIfInBounds_toArray, List.set_cons_succ, List.set_cons_zero]
  refine' wpAnyH_take (i := 6) ?h1x6b ?hsx6b ?hfx6b ?hrx6b ?hQx6b (Or.inl ⟨?hwx6b, ?hyx6b⟩) hS ?restx6b
  case h1x6b => (simp only [List.getElem?_toArray, List.getElem?_cons_succ, List.getElem?_cons_zero]; rfl)
  case hsx6b => kernel_rfl
  case hfx6b => kernel_rfl
  case hrx6b => kernel_rfl
  case hQx6b => exact fun _ _ _ h => h
  case hwx6b => rfl
  case hyx6b =>
    intro W hW
    go_simp
    try with_reducible rfl
  simp only [Act.put, List.setIfInBounds_toArray, List.set_cons_succ, List.set_cons_zero]
  refine' wpAnyH_take (i := 7) ?h1x7b ?hsx7b ?hfx7b ?hrx7b ?hQx7b (Or.inl ⟨?hwx7b, ?hyx7b⟩) hS ?restx7b
  case h1x7b => (simp only [List.getElem?_toArray, List.getElem?_cons_succ, List.getElem?_cons_zero]; rfl)
  case hsx7b => kernel_rfl
  case hfx7b => kernel_rfl
  case hrx7b => kernel_rfl
  case hQx7b => exact fun _ _ _ h => h
  case hwx7b => rfl
  case hyx7b =>
    intro W hW
    go_simp
    try with_reducible rfl
  simp only [Act.put, List.setIfInBounds_toArray, List.set_cons_succ, List.set_cons_zero]
  refine' wpAnyH_take (i := 8) ?h1x8b ?hsx8b ?hfx8b ?hrx8b ?hQx8b (Or.inl ⟨?hwx8b, ?hyx8b⟩) hS ?restx8b
  case h1x8b => (simp only [List.getElem?_toArray, List.getElem?_cons_succ, List.getElem?_cons_zero]; rfl)
  case hsx8b => kernel_rfl
  case hfx8b => kernel_rfl
  case hrx8b => kernel_rfl
  case hQx8b => exact fun _ _ _ h => h
  case hwx8b => rfl
  case hyx8b =>
    intro W hW
    go_simp
    try with_reducible rfl
  simp only [Act.put, List.setIfInBounds_toArray, List.set_cons_succ, List.set_cons_zero]
  refine' wpAnyH_take (i := 9) ?h1x9b ?hsx9b ?hfx9b ?hrx9b ?hQx9b (Or.inl ⟨?hwx9b, ?hyx9b⟩) hS ?restx9b
  case h1x9b => (simp only [List.getElem?_toArray, List.getElem?_cons_succ, List.getElem?_cons_zero]; rfl)
  case hsx9b => kernel_rfl
  case hfx9b => kernel_rfl
  case hrx9b => kernel_rfl
  case hQx9b => exact fun _ _ _ h => h
  case hwx9b => rfl
  case hyx9b =>
    intro W hW
    go_simp
    try with_reducible rfl
  simp only [Act.put, List.setIfInBounds_toArray, List.set_cons_succ, List.set_cons_zero]
  refine' wpAnyH_take (i := 10) ?h1x10b ?hsx10b ?hfx10b ?hrx10b ?hQx10b (Or.inl ⟨?hwx10b, ?hyx10b⟩) hS ?restx10b
  case h1x10b => (simp only [List.getElem?_toArray, List.getElem?_cons_succ, List.getElem?_cons_zero]; rfl)
  case hsx10b => kernel_rfl
  case hfx10b => kernel_rfl
  case hrx10b => kernel_rfl
  case hQx10b => exact fun _ _ _ h => h
  case hwx10b => rfl
  case hyx10b =>
    intro W hW
    have dd := (gcell PZ.out.2 ((hW.block _ (blk_lt Q9.out)).trans Q9.out)).2.1
    go_simp
    try with_reducible rfl
  simp only [Act.put, List.setIfInBounds_toArray, List.set_cons_succ, List.set_cons_zero]
  refine' wpAnyH_take (i := 11) ?h1x11b ?hsx11b ?hfx11b ?hrx11b ?hQx11b (Or.inl ⟨?hwx11b, ?hyx11b⟩) hS ?restx11b
  case h1x11b => (simp only [List.getElem?_toArray, List.getElem?_cons_succ, List.getElem?_cons_zero]; rfl)
  case hsx11b => kernel_rfl
  case hfx11b => kernel_rfl
  case hrx11b => kernel_rfl
  case hQx11b => exact fun _ _ _ h => h
  case hwx11b => rfl
  case hyx11b =>
    intro W hW
    go_simp
    try with_reducible rfl
  simp only [Act.put, List.setIfInBounds_toArray, List.set_cons_succ, List.set_cons_zero]
  refine' wpAnyH_take (i := 12) ?h1x12b ?hsx12b ?hfx12b ?hrx12b ?hQx12b (Or.inl ⟨?hwx12b, ?hyx12b⟩) hS ?restx12b
  case h1x12b => (simp only [List.getElem?_toArray, List.getElem?_cons_succ, List.getElem?_cons_zero]; rfl)
  case hsx12b => kernel_rfl
  case hfx12b => kernel_rfl
  case hrx12b => kernel_rfl
  case hQx12b => exact fun _ _ _ h => h
  case hwx12b => rfl
  case hyx12b =>
    intro W hW
    have dd := (qcell ((hW.block _ (blk_lt Q11.out)).trans Q11.out)).2.2.1
    go_simp
    try with_reducible rfl
  simp only [Act.put, List.setIfInBounds_toArray, List.set_cons_succ, List.set_cons_zero]
  refine' wpAnyH_take (i := 13) ?h1x13b ?hsx13b ?hfx13b ?hrx13b ?hQx13b (Or.inl ⟨?hwx13b, ?hyx13b⟩) hS ?restx13b
  case h1x13b => (simp only [List.getElem?_toArray, List.getElem?_cons_succ, List.getElem?_cons_zero]; rfl)
  case hsx13b => kernel_rfl
  case hfx13b => kernel_rfl
  case hrx13b => kernel_rfl
  case hQx13b => exact fun _ _ _ h => h
  case hwx13b => rfl
  case hyx13b =>
    intro W hW
    go_simp
    try with_reducible rfl
  simp only [Act.put, List.setIfInBounds_toArray, List.set_cons_succ, List.set_cons_zero]
  refine' wpAnyH_take (i := 14) ?h1x14b ?hsx14b ?hfx14b ?hrx14b ?hQx14b (Or.inl ⟨?hwx14b, ?hyx14b⟩) hS ?restx14b
  case h1x14b => (simp only [List.getElem?_toArray, List.getElem?_cons_succ, List.getElem?_cons_zero]; rfl)
  case hsx14b => kernel_rfl
  case hfx14b => kernel_rfl
  case hrx14b => kernel_rfl
  case hQx14b => exact fun _ _ _ h => h
  case hwx14b => rfl
  case hyx14b =>
    intro W hW
    go_simp
    try with_reducible rfl
  simp only [Act.put, List.setIfInBounds_toArray, List.set_cons_succ, List.set_cons_zero]
  refine' wpAnyH_take (i := 15) ?h1x15b ?hsx15b ?hfx15b ?hrx15b ?hQx15b (Or.inl ⟨?hwx15b, ?hyx15b⟩) hS ?restx15b
  case h1x15b => (simp only [List.getElem?_toArray, List.getElem?_cons_succ, List.getElem?_cons_zero]; rfl)
  case hsx15b => kernel_rfl
  case hfx15b => kernel_rfl
  case hrx15b => kernel_rfl
  case hQx15b => exact fun _ _ _ h => h
  case hwx15b => rfl
  case hyx15b =>
    intro W hW
    go_simp
    try with_reducible rfl
  simp only [Act.put, List.setIfInBounds_toArray, List.set_cons_succ, List.set_cons_zero]
  refine' wpAnyH_take (i := 16) ?h1x16b ?hsx16b ?hfx16b ?hrx16b ?hQx16b (Or.inl ⟨?hwx16b, ?hyx16b⟩) hS ?restx16b
  case h1x16b => (simp only [List.getElem?_toArray, List.getElem?_cons_succ, List.getElem?_cons_zero]; rfl)
  case hsx16b => kernel_rfl
  case hfx16b => kernel_rfl
  case hrx16b => kernel_rfl
  case hQx16b => exact fun _ _ _ h => h
  case hwx16b => rfl
  case hyx16b =>
    intro W hW
    go_simp
    try with_reducible rfl
  simp only [Act.put, List.setIfInBounds_toArray, List.set_cons_succ, List.set_cons_zero]
  refine' wpAnyH_take (i := 17) ?h1x17b ?hsx17b ?hfx17b ?hrx17b ?hQx17b (Or.inl ⟨?hwx17b, ?hyx17b⟩) hS ?restx17b
  case h1x17b => (simp only [List.getElem?_toArray, List.getElem?_cons_succ, List.getElem?_cons_zero]; rfl)
  case hsx17b => kernel_rfl
  case hfx17b => kernel_rfl
  case hrx17b => kernel_rfl
  case hQx17b => exact fun _ _ _ h => h
  case hwx17b => rfl
  case hyx17b =>
    intro W hW
    have dd := (gcell PZ.out.2 ((hW.block _ (blk_lt Q9.out)).trans Q9.out)).2.2
    go_simp
    try with_reducible rfl
  simp only [Act.put, List.setIfInBounds_toArray, List.set_cons_succ, List.set_cons_zero]
  refine' wpAnyH_take (i := 18) ?h1x18b ?hsx18b ?hfx18b ?hrx18b ?hQx18b (Or.inl ⟨?hwx18b, ?hyx18b⟩) hS ?restx18b
  case h1x18b => (simp only [List.getElem?_toArray, List.getElem?_cons_succ, List.getElem?_cons_zero]; rfl)
  case hsx18b => kernel_rfl
  case hfx18b => kernel_rfl
  case hrx18b => kernel_rfl
  case hQx18b => exact fun _ _ _ h => h
  case hwx18b => rfl
  case hyx18b =>
    intro W hW
    go_simp
    try with_reducible rfl
  simp only [Act.put, List.setIfInBounds_toArray, List.set_cons_succ, List.set_cons_zero]
  refine' wpAnyH_take (i := 19) ?h1x19b ?hsx19b ?hfx19b ?hrx19b ?hQx19b (Or.inl ⟨?hwx19b, ?hyx19b⟩) hS ?restx19b
  case h1x19b => (simp only [List.getElem?_toArray, List.getElem?_cons_succ, List.getElem?_cons_zero]; rfl)
  case hsx19b => kernel_rfl
  case hfx19b => kernel_rfl
  case hrx19b => kernel_rfl
  case hQx19b => exact fun _ _ _ h => h
  case hwx19b => rfl
  case hyx19b =>
    intro W hW
    have dd := (qcell ((hW.block _ (blk_lt Q11.out)).trans Q11.out)).2.2.2
    go_simp
    try with_reducible rfl
  simp only [Act.put, List.setIfInBounds_toArray, List.set_cons_succ, List.set_cons_zero]
  refine' wpAnyH_take (i := 20) ?h1x20b ?hsx20b ?hfx20b ?hrx20b ?hQx20b (Or.inl ⟨?hwx20b, ?hyx20b⟩) hS ?restx20b
  case h1x20b => (simp only [List.getElem?_toArray, List.getElem?_cons_succ, List.getElem?_cons_zero]; rfl)
  case hsx20b => kernel_rfl
  case hfx20b => kernel_rfl
  case hrx20b => kernel_rfl
  case hQx20b => exact fun _ _ _ h => h
  case hwx20b => rfl
  case hyx20b =>
    intro W hW
    go_simp
    try with_reducible rfl
  simp only [Act.put, List.setIfInBounds_toArray, List.set_cons_succ, List.set_cons_zero]
  refine' wpAnyH_take (i := 21) ?h1x21b ?hsx21b ?hfx21b ?hrx21b ?hQx21b (Or.inl ⟨?hwx21b, ?hyx21b⟩) hS ?restx21b
  case h1x21b => (simp only [List.getElem?_toArray, List.getElem?_cons_succ, List.getElem?_cons_zero]; rfl)
  case hsx21b => kernel_rfl
  case hfx21b => kernel_rfl
  case hrx21b => kernel_rfl
  case hQx21b => exact fun _ _ _ h => h
  case hwx21b => rfl
  case hyx21b =>
    intro W hW
    go_simp
    try with_reducible rfl
  simp only [Act.put, List.setIfInBounds_toArray, List.set_cons_succ, List.set_cons_zero]
  refine' wpAnyH_take (i := 22) ?h1x22b ?hsx22b ?hfx22b ?hrx22b ?hQx22b (Or.inl ⟨?hwx22b, ?hyx22b⟩) hS ?restx22b
  case h1x22b => (simp only [List.getElem?_toArray, List.getElem?_cons_succ, List.getElem?_cons_zero]; rfl)
  case hsx22b => kernel_rfl
  case hfx22b => kernel_rfl
  case hrx22b => kernel_rfl
  case hQx22b => exact fun _ _ _ h => h
  case hwx22b => rfl
  case hyx22b =>
    intro W hW
    go_simp
    try with_reducible rfl
  simp only [Act.put, List.setIfInBounds_toArray, List.set_cons_succ, List.set_cons_zero]
  refine' wpAnyH_take (i := 23) ?h1x23b ?hsx23b ?hfx23b ?hrx23b ?hQx23b (Or.inl ⟨?hwx23b, ?hyx23b⟩) hS ?restx23b
  case h1x23b => (simp only [List.getElem?_toArray, List.getElem?_cons_succ, List.getElem?_cons_zero]; rfl)
  case hsx23b => kernel_rfl
  case hfx23b => kernel_rfl
  case hrx23b => kernel_rfl
  case hQx23b => exact fun _ _ _ h => h
  case hwx23b => rfl
  case hyx23b =>
    intro W hW
    go_simp
    try with_reducible rfl
  simp only [Act.put, List.setIfInBounds_toArray, List.set_cons_succ, List.set_cons_zero]
  refine' wpAnyH_take (i := 24) ?h1x24b ?hsx24b ?hfx24b ?hrx24b ?hQx24b (Or.inl ⟨?hwx24b, ?hyx24b⟩) hS ?restx24b
  case h1x24b => (simp only [List.getElem?_toArray, List.getElem?_cons_succ, List.getElem?_cons_zero]; rfl)
  case hsx24b => kernel_rfl
  case hfx24b => kernel_rfl
  case hrx24b => kernel_rfl
  case hQx24b => exact fun _ _ _ h => h
  case hwx24b => rfl
  case hyx24b =>
    intro W hW
    go_simp
    try with_reducible rfl
  simp only [Act.put, List.setIfInBounds_toArray, List.set_cons_succ, List.set_cons_zero]
  refine' wpAnyH_take (i := 25) ?h1x25b ?hsx25b ?hfx25b ?hrx25b ?hQx25b (Or.inl ⟨?hwx25b, ?hyx25b⟩) hS ?restx25b
  case h1x25b => (simp only [List.getElem?_toArray, List.getElem?_cons_succ, List.getElem?_cons_zero]; rfl)
  case hsx25b => kernel_rfl
  case hfx25b => kernel_rfl
  case hrx25b => kernel_rfl
  case hQx25b => exact fun _ _ _ h => h
  case hwx25b => rfl
  case hyx25b =>
    intro W hW
    have dd := (gsum PZ.out.1 PZ.out.2 ((hW.block _ (blk_lt Q9.out)).trans Q9.out)).str
    go_simp
    try with_reducible rfl
  simp only [Act.put, List.setIfInBounds_toArray, List.set_cons_succ, List.set_cons_zero]
  refine' wpAnyH_take (i := 26) ?h1x26b ?hsx26b ?hfx26b ?hrx26b ?hQx26b (Or.inl ⟨?hwx26b, ?hyx26b⟩) hS ?restx26b
  case h1x26b => (simp only [List.getElem?_toArray, List.getElem?_cons_succ, List.getElem?_cons_zero]; rfl)
  case hsx26b => kernel_rfl
  case hfx26b => kernel_rfl
  case hrx26b => kernel_rfl
  case hQx26b => exact fun _ _ _ h => h
  case hwx26b => rfl
  case hyx26b =>
    intro W hW
    go_simp
    try with_reducible rfl
  simp only [Act.put, List.setIfInBounds_toArray, List.set_cons_succ, List.set_cons_zero]
  refine' wpAnyH_take (i := 27) ?h1x27b ?hsx27b ?hfx27b ?hrx27b ?hQx27b (Or.inl ⟨?hwx27b, ?hyx27b⟩) hS ?restx27b
  case h1x27b => (simp only [List.getElem?_toArray, List.getElem?_cons_succ, List.getElem?_cons_zero]; rfl)
  case hsx27b => kernel_rfl
  case hfx27b => kernel_rfl
  case hrx27b => kernel_rfl
  case hQx27b => exact fun _ _ _ h => h
  case hwx27b => rfl
  case hyx27b =>
    intro W hW
    have dd := (qcell ((hW.block _ (blk_lt Q11.out)).trans Q11.out)).1
    go_simp
    try with_reducible rfl
  simp only [Act.put, List.setIfInBounds_toArray, List.set_cons_succ, List.set_cons_zero]
  refine' wpAnyH_take (i := 28) ?h1x28b ?hsx28b ?hfx28b ?hrx28b ?hQx28b (Or.inl ⟨?hwx28b, ?hyx28b⟩) hS ?restx28b
  case h1x28b => (simp only [List.getElem?_toArray, List.getElem?_cons_succ, List.getElem?_cons_zero]; rfl)
  case hsx28b => kernel_rfl
  case hfx28b => kernel_rfl
  case hrx28b => kernel_rfl
  case hQx28b => exact fun _ _ _ h => h
  case hwx28b => rfl
  case hyx28b =>
    intro W hW
    have dd := (SQ.out.below hW).str
    go_simp
    try with_reducible rfl
  simp only [Act.put, List.setIfInBounds_toArray, List.set_cons_succ, List.set_cons_zero]
  refine' wpAnyH_take (i := 29) ?h1x29b ?hsx29b ?hfx29b ?hrx29b ?hQx29b (Or.inl ⟨?hwx29b, ?hyx29b⟩) hS ?restx29b
  case h1x29b => (simp only [List.getElem?_toArray, List.getElem?_cons_succ, List.getElem?_cons_zero]; rfl)
  case hsx29b => kernel_rfl
  case hfx29b => kernel_rfl
  case hrx29b => kernel_rfl
  case hQx29b => exact fun _ _ _ h => h
  case hwx29b => rfl
  case hyx29b =>
    intro W hW
    have dd := EP.out
    go_simp
    try with_reducible rfl
  simp only [Act.put, List.setIfInBounds_toArray, List.set_cons_succ, List.set_cons_zero]
  refine' wpAnyH_take (i := 30) ?h1x30b ?hsx30b ?hfx30b ?hrx30b ?hQx30b (Or.inl ⟨?hwx30b, ?hyx30b⟩) hS ?restx30b
  case h1x30b => (simp only [List.getElem?_toArray, List.getElem?_cons_succ, List.getElem?_cons_zero]; rfl)
  case hsx30b => kernel_rfl
  case hfx30b => kernel_rfl
  case hrx30b => kernel_rfl
  case hQx30b => exact fun _ _ _ h => h
  case hwx30b => rfl
  case hyx30b =>
    intro W hW
    go_simp
    try with_reducible rfl
  simp only [Act.put, List.setIfInBounds_toArray, List.set_cons_succ, List.set_cons_zero]
  refine' wpAnyH_take (i := 31) ?h1x31b ?hsx31b ?hfx31b ?hrx31b ?hQx31b (Or.inl ⟨?hwx31b, ?hyx31b⟩) hS ?restx31b
  case h1x31b => (simp only [List.getElem?_toArray, List.getElem?_cons_succ, List.getElem?_cons_zero]; rfl)
  case hsx31b => kernel_rfl
  case hfx31b => kernel_rfl
  case hrx31b => kernel_rfl
  case hQx31b => exact fun _ _ _ h => h
  case hwx31b => rfl
  case hyx31b =>
    intro W hW
    go_simp
    try with_reducible rfl
  simp only [Act.put, List.setIfInBounds_toArray, List.set_cons_succ, List.set_cons_zero]
  refine wpAnyH_done (by kernel_rfl) ?_ _
  go_wp2_with fail
  go_ret
  exact ⟨rfl, B0.out⟩
set_option maxRecDepth 100000 in
set_option maxHeartbeats 16000000 in
theorem walk_bad (R : Rg) (hR : R.ok) (bs : List Int) (hb : Byt bs) (lb : bs.length = 64) (w : World) (hr : gRe bs ≠ 0) :
    Calls Try.prog 4 #[.agg (gcells R), .agg (bcells bs)] w fun e w' => e = .returned (.bool true) ∧ Below w.heap.size w w' := by
  have hz46 := z46
  have hz47 := z47
  have hz52 : ∀ w : World, (zeroValue 52).run Try.prog w = .ok (.agg Qz) w := z52
  have WG : Hid (∀ W, Calls Try.prog 18 #[.agg (gcells R)] W fun e w' => e = .returned (.tuple #[.agg (bcells (gV R)), .int .i64 (gE R)]) ∧ Below W.heap.size W w') := fun W => writeG R hR W
  have AG : Hid (∀ W, Calls Try.prog 20 #[.agg (gcells R)] W (AsGP W R)) := fun W => asG R hR W
  have DG : Hid (∀ x c W, Sees W (.slice x 32 c) R.z → Calls Try.prog 19 #[.agg (qcells (.slice x 32 c) R.g R.e R.k)] W (RefWGP W R)) := fun x c W hs => refWG R hR x c W hs
  have RB : Hid (∀ W, Calls Try.prog 21 #[.agg (bcells bs)] W fun e w' => e = .returned (.tuple #[.agg (gcells G0), .int .i64 (gRe bs)]) ∧ Below W.heap.size W w') := fun W => by
    have := readG bs hb lb W
    unfold ReadGP gRv at this
    rw [if_neg hr] at this
    exact this
  have RD : Hid (∀ b W, Sees W (.slice (some ⟨b, 0, none⟩) 64 64) bs → Calls Try.prog 22 #[.slice (some ⟨b, 0, none⟩) 64 64] W fun e w' => e = .returned (.tuple #[.agg Qz, .int .i64 (gRe bs)]) ∧ Below W.heap.size W w') := fun b W h =>
    (refRG b 0 64 bs lb (by decide) (by decide) W h).mono fun e w' hh => by
      obtain ⟨⟨e0, _⟩ | ⟨_, he⟩, hb⟩ := hh
      · exact absurd e0 hr
      · exact ⟨he, hb⟩
  have hPok : G0.ok := G0_ok
  have HEB : Hid ((gRe bs != 0) = true) := by show _ = _; simpa using hr
  have IR := Lib.hid (i46 hR.2.2.2.2)
  have IB := Lib.hid (i47 lb)
  have VL := Lib.hid (gV_len (R := R) hR.2.2.2.2)
  have VB := Lib.hid (gV_byt (R := R) hR.2.2.2.1)
  have IV := Lib.hid (i47 VL.out)
  have OV := Lib.hid (one_cells (gV R))
  have ZV := Lib.hid (bcells_sz (show (zs 64).length = (gV R).length from (zs_len 64).trans VL.out.symm))
  have IP := Lib.hid (i46 hPok.2.2.2.2)
  have OP := Lib.hid (one_gcells G0)
  have ZP : Hid ((gcells G0).size = (gcells G0).size) := (gcells_size (R := G0) (zs_len 32)).trans (gcells_size hPok.2.2.2.2).symm
  have PZ : Hid (Byt G0.z ∧ G0.z.length = 32) := hPok.2.2.2
  have BG := Lib.hid bld46
  have EV : Hid (((strOfNums (gV R)).toList == (strOfNums (gV R)).toList) = true) := beq_self_eq_true _
  have EP : Hid (((strOfNums G0.z).toList == (strOfNums G0.z).toList) = true) := beq_self_eq_true _
  have EG : Hid (∀ W, (Op.equalIn 10000 46 (.agg (gcells G0)) (.agg (gcells G0))).run Try.prog W = .ok true W) := fun W => by rw [eq46 G0 G0 (zs_byt _) (zs_byt _) (zs_len _) (zs_len _) W, decide_eq_true ⟨rfl, rfl, rfl, rfl⟩]
  have VS : Hid (∀ (W : World) (b : Nat), W.heap[b]? = some (.cells (bcells (gV R)) 47 (0, 0)) → Sees W (.slice (some ⟨b, 0, none⟩) 64 64) (gV R)) := fun W b h => sees_rowT W b 47 _ VB.out (by rw [VL.out]; decide) h _ VL.out.symm
  have AL := Lib.hid alive19
  obtain ⟨W0, hW0⟩ : ∃ W0, W0 = (w.alloc (.cells (gcells R) 46)).alloc (.cells (bcells bs) 47) := ⟨_, rfl⟩
  have B0 : Hid (Below w.heap.size w W0) := by rw [hW0]; exact ((Below.refl _ _).alloc (Nat.le_refl _) _).alloc (by simp) _
  have GR : Hid (W0.heap[w.heap.size]? = some (.cells (gcells R) 46 (0, 0))) := by show _ = _; rw [hW0, Below.heap_alloc _ _ _ (by simp)]; exact heap_alloc_new w _
  have GB : Hid (W0.heap[w.heap.size + 1]? = some (.cells (bcells bs) 47 (0, 0))) := by show _ = _; rw [hW0]; exact heap_alloc2_new w _ _
  have SB : Hid (Sees W0 (.slice (some ⟨w.heap.size + 1, 0, none⟩) 64 64) bs) := sees_rowT W0 _ 47 bs hb (by rw [lb]; decide) GB.out _ lb.symm
  have HW0 := Lib.hid hW0
  clear hW0 hR hb lb hPok hr
  generalize gcells R = CR at *
  generalize bcells bs = CB at *
  generalize bcells (gV R) = CV at *
  generalize bcells (zs 64) = Z6 at *
  generalize gcells G0 = ZG at *
  generalize gRe bs = EB at *
  go_enter Try.func4, Try.ntmps4
  go_wp2_with (refine wpList_load_row rfl 46 (.tmp 2) rfl w.heap.size rfl 46 CR (0, 0) _ (by rw [← HW0.out]; exact GR.out) Try.underlying46 rfl IR.out ?_)
  rw [← HW0.out]
  refine (WG.out _).mono ?_
  rintro e w1 ⟨rfl, hb⟩
  have B0 := Lib.hid (B0.out.trans (hb.mono B0.out.size))
  have GR := Lib.hid ((hb.block _ (blk_lt GR.out)).trans GR.out)
  have GB := Lib.hid ((hb.block _ (blk_lt GB.out)).trans GB.out)
  have SB := Lib.hid (SB.out.below hb)
  clear hb
  have Av1 := Lib.hid (heap_alloc_new w1 (.cells Z6 47))
  have Ev1 := Lib.hid (alloc_setRowT w1 Z6 CV 47 _ rfl)
  have Q5 := Lib.hid (heap_alloc_new w1 (.cells CV 47))
  have halv1 : Below w1.heap.size w1 (w1.alloc (.cells CV 47)) := (Below.refl _ _).alloc (Nat.le_refl _) _
  have B0 := Lib.hid (B0.out.trans (halv1.mono B0.out.size))
  have GR := Lib.hid ((halv1.block _ (blk_lt GR.out)).trans GR.out)
  have GB := Lib.hid ((halv1.block _ (blk_lt GB.out)).trans GB.out)
  have SB := Lib.hid (SB.out.below halv1)
  clear halv1
  go_wp2_with (first
    | (refine wpList_store_row rfl 47 (.tmp 5) (.tmp 16) rfl w1.heap.size CV rfl rfl 47 Z6 Av1.out IV.out ZV.out OV.out ?_; rw [Ev1.out])
    | (refine wpList_load_row rfl 46 (.tmp 2) rfl w.heap.size rfl 46 CR (0, 0) _ GR.out Try.underlying46 rfl IR.out ?_))
  clear Av1 Ev1
  generalize w1.alloc (.cells CV 47) = v1 at *
  generalize w1.heap.size = g5 at *
  refine (AG.out _).mono ?_
  rintro e w2 ⟨xa, ca, rfl, hs, hb⟩
  have B0 := Lib.hid (B0.out.trans (hb.mono B0.out.size))
  have GR := Lib.hid ((hb.block _ (blk_lt GR.out)).trans GR.out)
  have GB := Lib.hid ((hb.block _ (blk_lt GB.out)).trans GB.out)
  have SB := Lib.hid (SB.out.below hb)
  have Q5 := Lib.hid ((hb.block _ (blk_lt Q5.out)).trans Q5.out)
  have SA := Lib.hid hs
  clear hs
  clear hb
  go_wp2_with fail
  refine (DG.out _ _ _ SA.out).mono ?_
  rintro e w3 ⟨u2, rfl, hs, hb⟩
  have B0 := Lib.hid (B0.out.trans (hb.mono B0.out.size))
  have GR := Lib.hid ((hb.block _ (blk_lt GR.out)).trans GR.out)
  have GB := Lib.hid ((hb.block _ (blk_lt GB.out)).trans GB.out)
  have SB := Lib.hid (SB.out.below hb)
  have Q5 := Lib.hid ((hb.block _ (blk_lt Q5.out)).trans Q5.out)
  have SA := Lib.hid (SA.out.below hb)
  have S2 := Lib.hid hs
  obtain ⟨ux2, uc2, rfl, _⟩ := hs.form
  clear hs
  clear hb
  go_wp2_with (refine wpList_load_row rfl 47 (.tmp 3) rfl (w.heap.size + 1) rfl 47 CB (0, 0) _ GB.out Try.underlying47 rfl IB.out ?_)
  refine (RB.out _).mono ?_
  rintro e w4 ⟨rfl, hb⟩
  have B0 := Lib.hid (B0.out.trans (hb.mono B0.out.size))
  have GR := Lib.hid ((hb.block _ (blk_lt GR.out)).trans GR.out)
  have GB := Lib.hid ((hb.block _ (blk_lt GB.out)).trans GB.out)
  have SB := Lib.hid (SB.out.below hb)
  have Q5 := Lib.hid ((hb.block _ (blk_lt Q5.out)).trans Q5.out)
  have S2 := Lib.hid (S2.out.below hb)
  clear hb
  have Av4 := Lib.hid (heap_alloc_new w4 (.cells ZG 46))
  have Ev4 := Lib.hid (alloc_setRowT w4 ZG ZG 46 _ rfl)
  have Q9 := Lib.hid (heap_alloc_new w4 (.cells ZG 46))
  have halv4 : Below w4.heap.size w4 (w4.alloc (.cells ZG 46)) := (Below.refl _ _).alloc (Nat.le_refl _) _
  have B0 := Lib.hid (B0.out.trans (halv4.mono B0.out.size))
  have GR := Lib.hid ((halv4.block _ (blk_lt GR.out)).trans GR.out)
  have GB := Lib.hid ((halv4.block _ (blk_lt GB.out)).trans GB.out)
  have SB := Lib.hid (SB.out.below halv4)
  have Q5 := Lib.hid ((halv4.block _ (blk_lt Q5.out)).trans Q5.out)
  have S2 := Lib.hid (S2.out.below halv4)
  clear halv4
  go_wp2_with (first
    | (refine wpList_store_row rfl 46 (.tmp 9) (.tmp 27) rfl w4.heap.size ZG rfl rfl 46 ZG Av4.out IP.out rfl OP.out ?_; rw [Ev4.out]))
  clear Av4 Ev4
  generalize w4.alloc (.cells ZG 46) = v4 at *
  generalize w4.heap.size = g9 at *
  refine (RD.out _ _ SB.out).mono ?_
  rintro e w5 ⟨rfl, hb⟩
  have B0 := Lib.hid (B0.out.trans (hb.mono B0.out.size))
  have GR := Lib.hid ((hb.block _ (blk_lt GR.out)).trans GR.out)
  have GB := Lib.hid ((hb.block _ (blk_lt GB.out)).trans GB.out)
  have SB := Lib.hid (SB.out.below hb)
  have Q5 := Lib.hid ((hb.block _ (blk_lt Q5.out)).trans Q5.out)
  have S2 := Lib.hid (S2.out.below hb)
  have Q9 := Lib.hid ((hb.block _ (blk_lt Q9.out)).trans Q9.out)
  clear hb
  have ID : Hid ((Try.prog.info? 52).map (·.size) = some Qz.size) := i52 0 0 0 (.slice none 0 0)
  have OD : Hid (Qz.all (·.oneCell') = true) := one_qcells 0 0 0 none 0 0
  have Av5 := Lib.hid (heap_alloc_new w5 (.cells Qz 52))
  have Ev5 := Lib.hid (alloc_setRowT w5 Qz Qz 52 _ rfl)
  have Q11 := Lib.hid (heap_alloc_new w5 (.cells Qz 52))
  have halv5 : Below w5.heap.size w5 (w5.alloc (.cells Qz 52)) := (Below.refl _ _).alloc (Nat.le_refl _) _
  have B0 := Lib.hid (B0.out.trans (halv5.mono B0.out.size))
  have GR := Lib.hid ((halv5.block _ (blk_lt GR.out)).trans GR.out)
  have GB := Lib.hid ((halv5.block _ (blk_lt GB.out)).trans GB.out)
  have SB := Lib.hid (SB.out.below halv5)
  have Q5 := Lib.hid ((halv5.block _ (blk_lt Q5.out)).trans Q5.out)
  have S2 := Lib.hid (S2.out.below halv5)
  have Q9 := Lib.hid ((halv5.block _ (blk_lt Q9.out)).trans Q9.out)
  clear halv5
  go_wp2_with (first
    | (refine wpList_store_row rfl 52 (.tmp 11) (.tmp 32) rfl w5.heap.size Qz rfl rfl 52 Qz Av5.out ID.out rfl OD.out ?_; rw [Ev5.out]))
  clear Av5 Ev5
  generalize w5.alloc (.cells Qz 52) = v5 at *
  generalize w5.heap.size = g11 at *
  refine wp_region_held_drew (S := fun W => Below v5.heap.size v5 W) (by kernel_rfl) (Below.refl _ _).drew (fun hS => ?_)
  refine' wpAnyH_take (i := 0) ?h1x0a ?hsx0a ?hfx0a ?hrx0a ?hQx0a (Or.inl ⟨?hwx0a, ?hyx0a⟩) hS ?restx0a
  case h1x0a => (simp only [List.getElem?_toArray, List.getElem?_cons_zero]; rfl)
  case hsx0a => kernel_rfl
  case hfx0a => kernel_rfl
  case hrx0a => kernel_rfl
  case hQx0a => exact fun _ _ _ h => h
  case hwx0a => rfl
  case hyx0a =>
    intro W hW
    go_simp
    try with_reducible rfl
  simp only [Act.put, List.setIfInBounds_toArray, List.set_cons_succ, List.set_cons_zero]
  refine' wpAnyH_take (i := 1) ?h1x1a ?hsx1a ?hfx1a ?hrx1a ?hQx1a (Or.inl ⟨?hwx1a, ?hyx1a⟩) hS ?restx1a
  case h1x1a => (simp only [List.getElem?_toArray, List.getElem?_cons_succ, List.getElem?_cons_zero]; rfl)
  case hsx1a => kernel_rfl
  case hfx1a => kernel_rfl
  case hrx1a => kernel_rfl
  case hQx1a => exact fun _ _ _ h => h
  case hwx1a => rfl
  case hyx1a =>
    intro W hW
    have dd := (VS.out _ _ ((hW.block _ (blk_lt Q5.out)).trans Q5.out)).str
    go_simp
    try with_reducible rfl
  simp only [Act.put, List.setIfInBounds_toArray, List.set_cons_succ, List.set_cons_zero]
  refine' wpAnyH_take (i := 2) ?h1x2a ?hsx2a ?hfx2a ?hrx2a ?hQx2a (Or.inl ⟨?hwx2a, ?hyx2a⟩) hS ?restx2a
  case h1x2a => (simp only [List.getElem?_toArray, List.getElem?_cons_succ, List.getElem?_cons_zero]; rfl)
  case hsx2a => kernel_rfl
  case hfx2a => kernel_rfl
  case hrx2a => kernel_rfl
  case hQx2a => exact fun _ _ _ h => h
  case hwx2a => rfl
  case hyx2a =>
    intro W hW
    go_simp
    try with_reducible rfl
  simp only [Act.put, List.setIfInBounds_toArray, List.set_cons_succ, List.set_cons_zero]
  refine' wpAnyH_take (i := 3) ?h1x3a ?hsx3a ?hfx3a ?hrx3a ?hQx3a (Or.inl ⟨?hwx3a, ?hyx3a⟩) hS ?restx3a
  case h1x3a => (simp only [List.getElem?_toArray, List.getElem?_cons_succ, List.getElem?_cons_zero]; rfl)
  case hsx3a => kernel_rfl
  case hfx3a => kernel_rfl
  case hrx3a => kernel_rfl
  case hQx3a => exact fun _ _ _ h => h
  case hwx3a => rfl
  case hyx3a =>
    intro W hW
    have dd := (S2.out.below hW).str
    go_simp
    try with_reducible rfl
  simp only [Act.put, List.setIfInBounds_toArray, List.set_cons_succ, List.set_cons_zero]
  refine' wpAnyH_take (i := 4) ?h1x4a ?hsx4a ?hfx4a ?hrx4a ?hQx4a (Or.inl ⟨?hwx4a, ?hyx4a⟩) hS ?restx4a
  case h1x4a => (simp only [List.getElem?_toArray, List.getElem?_cons_succ, List.getElem?_cons_zero]; rfl)
  case hsx4a => kernel_rfl
  case hfx4a => kernel_rfl
  case hrx4a => kernel_rfl
  case hQx4a => exact fun _ _ _ h => h
  case hwx4a => rfl
  case hyx4a =>
    intro W hW
    have dd := EV.out
    go_simp
    try with_reducible rfl
  simp only [Act.put, List.setIfInBounds_toArray, List.set_cons_succ, List.set_cons_zero]
  refine' wpAnyH_take (i := 5) ?h1x5a ?hsx5a ?hfx5a ?hrx5a ?hQx5a (Or.inl ⟨?hwx5a, ?hyx5a⟩) hS ?restx5a
  case h1x5a => (simp only [List.getElem?_toArray, List.getElem?_cons_succ, List.getElem?_cons_zero]; rfl)
  case hsx5a => kernel_rfl
  case hfx5a => kernel_rfl
  case hrx5a => kernel_rfl
  case hQx5a => exact fun _ _ _ h => h
  case hwx5a => rfl
  case hyx5a =>
    intro W hW
    go_simp
    try with_reducible rfl
  simp only [Act.put, List.setIfInBounds_toArray, List.set_cons_succ, List.set_cons_zero]
  refine' wpAnyH_take (i := 6) ?h1x6a ?hsx6a ?hfx6a ?hrx6a ?hQx6a (Or.inl ⟨?hwx6a, ?hyx6a⟩) hS ?restx6a
  case h1x6a => (simp only [List.getElem?_toArray, List.getElem?_cons_succ, List.getElem?_cons_zero]; rfl)
  case hsx6a => kernel_rfl
  case hfx6a => kernel_rfl
  case hrx6a => kernel_rfl
  case hQx6a => exact fun _ _ _ h => h
  case hwx6a => rfl
  case hyx6a =>
    intro W hW
    go_simp
    try with_reducible rfl
  simp only [Act.put, List.setIfInBounds_toArray, List.set_cons_succ, List.set_cons_zero]
  refine' wpAnyH_take (i := 7) ?h1x7a ?hsx7a ?hfx7a ?hrx7a ?hQx7a (Or.inl ⟨?hwx7a, ?hyx7a⟩) hS ?restx7a
  case h1x7a => (simp only [List.getElem?_toArray, List.getElem?_cons_succ, List.getElem?_cons_zero]; rfl)
  case hsx7a => kernel_rfl
  case hfx7a => kernel_rfl
  case hrx7a => kernel_rfl
  case hQx7a => exact fun _ _ _ h => h
  case hwx7a => rfl
  case hyx7a =>
    intro W hW
    go_simp
    try with_reducible rfl
  simp only [Act.put, List.setIfInBounds_toArray, List.set_cons_succ, List.set_cons_zero]
  refine' wpAnyH_take (i := 8) ?h1x8a ?hsx8a ?hfx8a ?hrx8a ?hQx8a (Or.inl ⟨?hwx8a, ?hyx8a⟩) hS ?restx8a
  case h1x8a => (simp only [List.getElem?_toArray, List.getElem?_cons_succ, List.getElem?_cons_zero]; rfl)
  case hsx8a => kernel_rfl
  case hfx8a => kernel_rfl
  case hrx8a => kernel_rfl
  case hQx8a => exact fun _ _ _ h => h
  case hwx8a => rfl
  case hyx8a =>
    intro W hW
    go_simp
    try with_reducible rfl
  simp only [Act.put, List.setIfInBounds_toArray, List.set_cons_succ, List.set_cons_zero]
  refine' wpAnyH_take (i := 9) ?h1x9a ?hsx9a ?hfx9a ?hrx9a ?hQx9a (Or.inl ⟨?hwx9a, ?hyx9a⟩) hS ?restx9a
  case h1x9a => (simp only [List.getElem?_toArray, List.getElem?_cons_succ, List.getElem?_cons_zero]; rfl)
  case hsx9a => kernel_rfl
  case hfx9a => kernel_rfl
  case hrx9a => kernel_rfl
  case hQx9a => exact fun _ _ _ h => h
  case hwx9a => rfl
  case hyx9a =>
    intro W hW
    go_simp
    try with_reducible rfl
  simp only [Act.put, List.setIfInBounds_toArray, List.set_cons_succ, List.set_cons_zero]
  refine' wpAnyH_take (i := 10) ?h1x10a ?hsx10a ?hfx10a ?hrx10a ?hQx10a (Or.inl ⟨?hwx10a, ?hyx10a⟩) hS ?restx10a
  case h1x10a => (simp only [List.getElem?_toArray, List.getElem?_cons_succ, List.getElem?_cons_zero]; rfl)
  case hsx10a => kernel_rfl
  case hfx10a => kernel_rfl
  case hrx10a => kernel_rfl
  case hQx10a => exact fun _ _ _ h => h
  case hwx10a => rfl
  case hyx10a =>
    intro W hW
    go_simp
    try with_reducible rfl
  simp only [Act.put, List.setIfInBounds_toArray, List.set_cons_succ, List.set_cons_zero]
  refine' wpAnyH_take (i := 11) ?h1x11a ?hsx11a ?hfx11a ?hrx11a ?hQx11a (Or.inl ⟨?hwx11a, ?hyx11a⟩) hS ?restx11a
  case h1x11a => (simp only [List.getElem?_toArray, List.getElem?_cons_succ, List.getElem?_cons_zero]; rfl)
  case hsx11a => kernel_rfl
  case hfx11a => kernel_rfl
  case hrx11a => kernel_rfl
  case hQx11a => exact fun _ _ _ h => h
  case hwx11a => rfl
  case hyx11a =>
    intro W hW
    go_simp
    try with_reducible rfl
  simp only [Act.put, List.setIfInBounds_toArray, List.set_cons_succ, List.set_cons_zero]
  refine' wpAnyH_take (i := 12) ?h1x12a ?hsx12a ?hfx12a ?hrx12a ?hQx12a (Or.inl ⟨?hwx12a, ?hyx12a⟩) hS ?restx12a
  case h1x12a => (simp only [List.getElem?_toArray, List.getElem?_cons_succ, List.getElem?_cons_zero]; rfl)
  case hsx12a => kernel_rfl
  case hfx12a => kernel_rfl
  case hrx12a => kernel_rfl
  case hQx12a => exact fun _ _ _ h => h
  case hwx12a => rfl
  case hyx12a =>
    intro W hW
    go_simp
    try with_reducible rfl
  simp only [Act.put, List.setIfInBounds_toArray, List.set_cons_succ, List.set_cons_zero]
  refine' wpAnyH_take (i := 13) ?h1x13a ?hsx13a ?hfx13a ?hrx13a ?hQx13a (Or.inl ⟨?hwx13a, ?hyx13a⟩) hS ?restx13a
  case h1x13a => (simp only [List.getElem?_toArray, List.getElem?_cons_succ, List.getElem?_cons_zero]; rfl)
  case hsx13a => kernel_rfl
  case hfx13a => kernel_rfl
  case hrx13a => kernel_rfl
  case hQx13a => exact fun _ _ _ h => h
  case hwx13a => rfl
  case hyx13a =>
    intro W hW
    go_simp
    try with_reducible rfl
  simp only [Act.put, List.setIfInBounds_toArray, List.set_cons_succ, List.set_cons_zero]
  refine' wpAnyH_take (i := 14) ?h1x14a ?hsx14a ?hfx14a ?hrx14a ?hQx14a (Or.inl ⟨?hwx14a, ?hyx14a⟩) hS ?restx14a
  case h1x14a => (simp only [List.getElem?_toArray, List.getElem?_cons_succ, List.getElem?_cons_zero]; rfl)
  case hsx14a => kernel_rfl
  case hfx14a => kernel_rfl
  case hrx14a => kernel_rfl
  case hQx14a => exact fun _ _ _ h => h
  case hwx14a => rfl
  case hyx14a =>
    intro W hW
    go_simp
    try with_reducible rfl
  simp only [Act.put, List.setIfInBounds_toArray, List.set_cons_succ, List.set_cons_zero]
  refine wpAnyH_done (by kernel_rfl) ?_ _
  have B0 := Lib.hid (B0.out.trans (hS.mono B0.out.size))
  have GR := Lib.hid ((hS.block _ (blk_lt GR.out)).trans GR.out)
  have GB := Lib.hid ((hS.block _ (blk_lt GB.out)).trans GB.out)
  have SB := Lib.hid (SB.out.below hS)
  have Q5 := Lib.hid ((hS.block _ (blk_lt Q5.out)).trans Q5.out)
  have S2 := Lib.hid (S2.out.below hS)
  have Q9 := Lib.hid ((hS.block _ (blk_lt Q9.out)).trans Q9.out)
  have Q11 := Lib.hid ((hS.block _ (blk_lt Q11.out)).trans Q11.out)
  clear hS
  have heb := HEB.out
  have eg := EG.out
  go_wp2_with fail
  refine (AL.out _).mono ?_
  rintro e wl ⟨rfl, hb⟩
  have B0 := Lib.hid (B0.out.trans (hb.mono B0.out.size))
  have GR := Lib.hid ((hb.block _ (blk_lt GR.out)).trans GR.out)
  have GB := Lib.hid ((hb.block _ (blk_lt GB.out)).trans GB.out)
  have SB := Lib.hid (SB.out.below hb)
  have Q5 := Lib.hid ((hb.block _ (blk_lt Q5.out)).trans Q5.out)
  have S2 := Lib.hid (S2.out.below hb)
  have Q9 := Lib.hid ((hb.block _ (blk_lt Q9.out)).trans Q9.out)
  have Q11 := Lib.hid ((hb.block _ (blk_lt Q11.out)).trans Q11.out)
  clear hb
  go_wp2_with (first
    | (refine wpList_load_met rfl 46 (.tmp 9) rfl g9 rfl 46 ZG (0, 0) _ Q9.out Try.underlying46 ⟨_, rfl⟩ IP.out ?_)
    | (refine wpList_blank_met rfl 46 rfl (BG.out _) ?_))
  go_ret
  exact ⟨rfl, B0.out⟩
theorem walk (R : Rg) (hR : R.ok) (bs : List Int) (hb : Byt bs) (lb : bs.length = 64) (w : World) :
    Calls Try.prog 4 #[.agg (gcells R), .agg (bcells bs)] w fun e w' => e = .returned (.bool true) ∧ Below w.heap.size w w' := by
  by_cases hr : gRe bs = 0
  · exact walk_ok R hR bs hb lb w hr
  · exact walk_bad R hR bs hb lb w hr

set_option maxRecDepth 100000 in
theorem lifted (os : Os) (started : os.Started) (H : Type) (enc : TypeId × Value → H) :
    ReturnsInHanded {} Try.checked os 4 .any (Rows.superRegsSpec.pre6 enc Try.prog Try.f4 Rows.superRegsRow.domain false) (Rows.superRegsSpec.post enc Try.prog Try.f4 false true false false) := by
  refine returnsInHanded_of_change (C := Try.checked) own started (by kernel_rfl) Try.func4
    (ChangeSpec.witness6 (enc := enc) (C := Try.checked) false ⟨#[], #[.agg (gcells G0), .agg (bcells (zs 64))], []⟩ 8 (by kernel_rfl) (by kernel_rfl) (by kernel_rfl) (by kernel_rfl)) ?_
  intro W base args ds gs before hval0 hW hcnd _
  have hval : ∀ (j : Nat) t v, Try.f4.params[j]? = some t → args[j]? = some v → Value.okWide Try.prog W .any base t v := hval0
  have hW' := hW
  obtain ⟨p, q, hA0, hV, rfl, hfz, hnd⟩ := hW
  have hA : DataW.TrodAll enc Try.prog W 0 (fun _ => true) true Try.f4.params.toList args.toList ds p := hA0
  rw [Try.params4] at hA hval
  obtain ⟨v0, vs0, d0, ds0, p0, q0, hargs, rfl, rfl, h0, r0⟩ := trodAll_cons hA
  obtain ⟨v1, vs1, d1, ds1, p1, q1, rfl, rfl, rfl, h1, r1⟩ := trodAll_cons r0
  obtain ⟨rfl, rfl, rfl⟩ := trodAll_nil r1
  obtain rfl : args = #[v0, v1] := by cases args; simp_all
  obtain ⟨rfl, rfl⟩ := trodVars_none hV
  obtain ⟨R0, hR0, rfl⟩ := open_reg (hval 0 46 v0 rfl rfl) h0
  obtain ⟨y1, hy1, ly1, rfl⟩ := open_arr64 (hval 1 47 v1 rfl rfl) h1
  refine (walk R0 hR0 y1 hy1 ly1 W).mono fun e W' ⟨he, hb⟩ => ?_
  subst he
  exact ⟨_, rfl, law_post hW' rfl rfl rfl (by kernel_rfl) hb⟩

/-- The statement. -/
theorem proved : Rows.SuperRegsSaid :=
  OpenClaim.holds_of_wide 4 Try.f4 rfl rfl rfl rfl rfl rfl rfl ⟨rfl, rfl, rfl, rfl, rfl⟩ rfl rfl rfl rfl rfl (by kernel_rfl) Try.func4 (by kernel_rfl)
    (of_decide_eq_true (by kernel_rfl)) (by unfold Func.isWrapper; first | (rw [if_pos (by decide +kernel)]; kernel_rfl) | (rw [if_neg (by decide +kernel)]; exact ⟨rfl, rfl⟩))
    (fun os started H enc _ => lifted os started H enc)
#print axioms proved
end Go.Proofs.Ytplffbpnjnbolaa.superRegs
