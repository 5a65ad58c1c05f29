/-
  For all keys and pairs of blocks the law AesApart of package casematelaw05 returns true, and they read afterwards as before: unlike blocks are turned to unlike ones, there and back. Condition: none.
-/
import Derived.Test.YtekffhopmicalaaR
namespace Go.Proofs.Ytekffhopmicalaa.aesApart
open Go.ChangeShapes Go.WideShapes Go.ChangeAt Go.RowKit
set_option maxRecDepth 100000 in
set_option maxHeartbeats 4000000 in
theorem walk (key a b : List Nat) (hk : Bts 32 key) (ha' : Bts 16 a) (hb' : Bts 16 b) (w : World) : Calls Try.prog 6 #[.agg (ncells key), .agg (ncells a), .agg (ncells b)] w fun e w' => e = .returned (.bool true) ∧ Below w.heap.size w w' := by
  obtain ⟨d, hd⟩ : ∃ d, d = decide (a = b) := ⟨_, rfl⟩
  have EA : Hid (∀ (g : Nat) (W : World), CIat W g (flat key) → Calls Try.prog 21 #[.pointer (some ⟨g, 0, none⟩), .agg (ncells a)] W fun e w' => e = .returned (.agg (ncells (enc key a))) ∧ Below W.heap.size W w') := fun g W h => encC hk ha' g W h
  have EB : Hid (∀ (g : Nat) (W : World), CIat W g (flat key) → Calls Try.prog 21 #[.pointer (some ⟨g, 0, none⟩), .agg (ncells b)] W fun e w' => e = .returned (.agg (ncells (enc key b))) ∧ Below W.heap.size W w') := fun g W h => encC hk hb' g W h
  have DA : Hid (∀ (g : Nat) (W : World), CIat W g (flat key) → Calls Try.prog 22 #[.pointer (some ⟨g, 0, none⟩), .agg (ncells a)] W fun e w' => e = .returned (.agg (ncells (dec key a))) ∧ Below W.heap.size W w') := fun g W h => decC hk ha' g W h
  have DB : Hid (∀ (g : Nat) (W : World), CIat W g (flat key) → Calls Try.prog 22 #[.pointer (some ⟨g, 0, none⟩), .agg (ncells b)] W fun e w' => e = .returned (.agg (ncells (dec key b))) ∧ Below W.heap.size W w') := fun g W h => decC hk hb' g W h
  have Q1 : Hid (∀ W : World, (Op.equalIn 10000 37 (.agg (ncells a)) (.agg (ncells b))).run Try.prog W = .ok d W) := fun W => by rw [hd]; exact eq37 a b ha' hb' W
  have Q2 : Hid (∀ W : World, (Op.equalIn 10000 37 (.agg (ncells (enc key a))) (.agg (ncells (enc key b)))).run Try.prog W = .ok d W) := fun W => by
    rw [eq37 _ _ (enc_bts hk ha') (enc_bts hk hb') W, hd]
    congr 1
    rw [decide_eq_decide]
    exact ⟨fun h => by rw [← dec_enc hk ha', h, dec_enc hk hb'], fun h => by rw [h]⟩
  have Q3 : Hid (∀ W : World, (Op.equalIn 10000 37 (.agg (ncells (dec key a))) (.agg (ncells (dec key b)))).run Try.prog W = .ok d W) := fun W => by
    rw [eq37 _ _ (dec_bts hk ha') (dec_bts hk hb') W, hd]
    congr 1
    rw [decide_eq_decide]
    exact ⟨fun h => by rw [← enc_dec hk ha', h, enc_dec hk hb'], fun h => by rw [h]⟩
  have NW : Hid (∀ W : World, Calls Try.prog 17 #[.agg (ncells key)] W (NewP W (flat key))) := fun W => newC key hk W
  have KL := Lib.hid hk.1
  have AL := Lib.hid ha'.1
  have BL := Lib.hid hb'.1
  generalize flat key = F at *
  generalize enc key a = A1 at *
  generalize dec key a = A2 at *
  generalize enc key b = B1 at *
  generalize dec key b = B2 at *
  obtain ⟨W0, hW0⟩ : ∃ W0, W0 = ((w.alloc (.cells (ncells key) 23)).alloc (.cells (ncells a) 37)).alloc (.cells (ncells b) 37) := ⟨_, rfl⟩
  have HB : Hid (Below w.heap.size w W0) := by rw [hW0]; exact (((Below.refl _ _).alloc (Nat.le_refl _) _).alloc (by simp) _).alloc (by simp <;> omega) _
  have G0 : Hid (W0.heap[w.heap.size]? = some (.cells (ncells key) 23 (0, 0))) := by show _ = _; rw [hW0, Below.heap_alloc _ _ _ (by simp <;> omega), Below.heap_alloc _ _ _ (by simp)]; exact heap_alloc_new w _
  have G1 : Hid (W0.heap[w.heap.size + 1]? = some (.cells (ncells a) 37 (0, 0))) := by show _ = _; rw [hW0, Below.heap_alloc _ _ _ (by simp)]; exact heap_alloc2_new w _ _
  have G2 : Hid (W0.heap[w.heap.size + 1 + 1]? = some (.cells (ncells b) 37 (0, 0))) := by
    show _ = _
    rw [hW0]
    have := heap_alloc_new ((w.alloc (.cells (ncells key) 23)).alloc (.cells (ncells a) 37)) (.cells (ncells b) 37)
    simpa using this
  have HW0 := Lib.hid hW0
  clear hW0 hk hb' ha' hd
  go_enter Try.func6, Try.ntmps6
  go_wp2_with (first
    | (refine wpList_load_row rfl 23 (.tmp 3) rfl w.heap.size rfl 23 (ncells key) (0, 0) _ (by rw [← HW0.out]; exact G0.out) Try.underlying23 rfl (i23 KL.out) ?_))
  rw [← HW0.out]
  refine (NW.out _).mono ?_
  rintro e w1 ⟨g, rfl, hge, hci, hb⟩
  have C1 := Lib.hid hci
  have BB1 := Lib.hid (HB.out.trans (hb.mono HB.out.size))
  have G11 := Lib.hid ((hb.block _ (blk_lt G1.out)).trans G1.out)
  have G21 := Lib.hid ((hb.block _ (blk_lt G2.out)).trans G2.out)
  clear hci hb hge G0 G1 G2 HB HW0
  go_wp2_with fail
  have q1 := Q1.out
  have q2 := Q2.out
  have q3 := Q3.out
  refine wp_region_held_drew (S := fun W => Below w1.heap.size w1 W) (by kernel_rfl) (Below.refl _ _).drew (fun hS => ?_)
  refine wpAnyH_ready (rs := [0]) (by kernel_rfl) (by simp) ?_
  refine' AllReadyH.cons ?hoc0p (fun K hK => ?stc0p) AllReadyH.nil
  case hoc0p => (simp only [List.getElem?_toArray, List.getElem?_cons_zero]; rfl)
  go_simp
  refine (alive5 _).mono ?_
  rintro e wa ⟨rfl, hb⟩
  go_wp2_with fail
  refine hK.out _ _ (hS.trans (hb.mono hS.size)) (fun hHeld => ?_)
  clear hK K
  try simp only [Act.put, List.setIfInBounds_toArray, List.set_cons_succ, List.set_cons_zero]
  clear hS hb
  have hS := hHeld
  clear hHeld
  refine' wpAnyH_take (i := 1) ?h1x1p ?hsx1p ?hfx1p ?hrx1p ?hQx1p (Or.inl ⟨?hwx1p, ?hyx1p⟩) hS ?restx1p
  case h1x1p => (simp only [List.getElem?_toArray, List.getElem?_cons_succ, List.getElem?_cons_zero]; rfl)
  case hsx1p => kernel_rfl
  case hfx1p => kernel_rfl
  case hrx1p => kernel_rfl
  case hQx1p => exact fun _ _ _ h => h
  case hwx1p => rfl
  case hyx1p =>
    intro W hW
    go_simp
    try with_reducible rfl
  simp only [Act.put, List.setIfInBounds_toArray, List.set_cons_succ, List.set_cons_zero]
  refine' wpAnyH_take (i := 2) ?h1x2p ?hsx2p ?hfx2p ?hrx2p ?hQx2p (Or.inl ⟨?hwx2p, ?hyx2p⟩) hS ?restx2p
  case h1x2p => (simp only [List.getElem?_toArray, List.getElem?_cons_succ, List.getElem?_cons_zero]; rfl)
  case hsx2p => kernel_rfl
  case hfx2p => kernel_rfl
  case hrx2p => kernel_rfl
  case hQx2p => exact fun _ _ _ h => h
  case hwx2p => rfl
  case hyx2p =>
    intro W hW
    go_simp
    try with_reducible rfl
  simp only [Act.put, List.setIfInBounds_toArray, List.set_cons_succ, List.set_cons_zero]
  refine' wpAnyH_take (i := 3) ?h1x3p ?hsx3p ?hfx3p ?hrx3p ?hQx3p (yieldsIf_load_at ?hwx3p 37 (.tmp 4) ?hopx3p (w.heap.size + 1) 0 rfl (ncells a) _ (fun W hW => range_row ((hW.block _ (blk_lt G11.out)).trans G11.out)) Try.underlying37 rfl ?hix3p) hS ?restx3p
  case h1x3p => (simp only [List.getElem?_toArray, List.getElem?_cons_succ, List.getElem?_cons_zero]; rfl)
  case hopx3p => rfl
  case hsx3p => kernel_rfl
  case hfx3p => kernel_rfl
  case hrx3p => kernel_rfl
  case hQx3p => exact fun _ _ _ h => h
  case hwx3p => rfl
  case hix3p => exact (i47 AL.out)
  simp only [Act.put, List.setIfInBounds_toArray, List.set_cons_succ, List.set_cons_zero]
  refine' wpAnyH_take (i := 5) ?h1x5p ?hsx5p ?hfx5p ?hrx5p ?hQx5p (Or.inl ⟨?hwx5p, ?hyx5p⟩) hS ?restx5p
  case h1x5p => (simp only [List.getElem?_toArray, List.getElem?_cons_succ, List.getElem?_cons_zero]; rfl)
  case hsx5p => kernel_rfl
  case hfx5p => kernel_rfl
  case hrx5p => kernel_rfl
  case hQx5p => exact fun _ _ _ h => h
  case hwx5p => rfl
  case hyx5p =>
    intro W hW
    go_simp
    try with_reducible rfl
  simp only [Act.put, List.setIfInBounds_toArray, List.set_cons_succ, List.set_cons_zero]
  refine' wpAnyH_take (i := 6) ?h1x6p ?hsx6p ?hfx6p ?hrx6p ?hQx6p (yieldsIf_load_at ?hwx6p 37 (.tmp 5) ?hopx6p (w.heap.size + 1 + 1) 0 rfl (ncells b) _ (fun W hW => range_row ((hW.block _ (blk_lt G21.out)).trans G21.out)) Try.underlying37 rfl ?hix6p) hS ?restx6p
  case h1x6p => (simp only [List.getElem?_toArray, List.getElem?_cons_succ, List.getElem?_cons_zero]; rfl)
  case hopx6p => rfl
  case hsx6p => kernel_rfl
  case hfx6p => kernel_rfl
  case hrx6p => kernel_rfl
  case hQx6p => exact fun _ _ _ h => h
  case hwx6p => rfl
  case hix6p => exact (i47 BL.out)
  simp only [Act.put, List.setIfInBounds_toArray, List.set_cons_succ, List.set_cons_zero]
  refine' wpAnyH_take (i := 9) ?h1x9p ?hsx9p ?hfx9p ?hrx9p ?hQx9p (yieldsIf_load_at ?hwx9p 37 (.tmp 4) ?hopx9p (w.heap.size + 1) 0 rfl (ncells a) _ (fun W hW => range_row ((hW.block _ (blk_lt G11.out)).trans G11.out)) Try.underlying37 rfl ?hix9p) hS ?restx9p
  case h1x9p => (simp only [List.getElem?_toArray, List.getElem?_cons_succ, List.getElem?_cons_zero]; rfl)
  case hopx9p => rfl
  case hsx9p => kernel_rfl
  case hfx9p => kernel_rfl
  case hrx9p => kernel_rfl
  case hQx9p => exact fun _ _ _ h => h
  case hwx9p => rfl
  case hix9p => exact (i47 AL.out)
  simp only [Act.put, List.setIfInBounds_toArray, List.set_cons_succ, List.set_cons_zero]
  refine' wpAnyH_take (i := 10) ?h1x10p ?hsx10p ?hfx10p ?hrx10p ?hQx10p (yieldsIf_load_at ?hwx10p 37 (.tmp 5) ?hopx10p (w.heap.size + 1 + 1) 0 rfl (ncells b) _ (fun W hW => range_row ((hW.block _ (blk_lt G21.out)).trans G21.out)) Try.underlying37 rfl ?hix10p) hS ?restx10p
  case h1x10p => (simp only [List.getElem?_toArray, List.getElem?_cons_succ, List.getElem?_cons_zero]; rfl)
  case hopx10p => rfl
  case hsx10p => kernel_rfl
  case hfx10p => kernel_rfl
  case hrx10p => kernel_rfl
  case hQx10p => exact fun _ _ _ h => h
  case hwx10p => rfl
  case hix10p => exact (i47 BL.out)
  simp only [Act.put, List.setIfInBounds_toArray, List.set_cons_succ, List.set_cons_zero]
  refine' wpAnyH_take (i := 11) ?h1x11p ?hsx11p ?hfx11p ?hrx11p ?hQx11p (Or.inl ⟨?hwx11p, ?hyx11p⟩) hS ?restx11p
  case h1x11p => (simp only [List.getElem?_toArray, List.getElem?_cons_succ, List.getElem?_cons_zero]; rfl)
  case hsx11p => kernel_rfl
  case hfx11p => kernel_rfl
  case hrx11p => kernel_rfl
  case hQx11p => exact fun _ _ _ h => h
  case hwx11p => rfl
  case hyx11p =>
    intro W hW
    go_simp
    try with_reducible rfl
  simp only [Act.put, List.setIfInBounds_toArray, List.set_cons_succ, List.set_cons_zero]
  refine wpAnyH_ready (rs := [4]) (by kernel_rfl) (by simp) ?_
  refine' AllReadyH.cons ?hoc4p (fun K hK => ?stc4p) AllReadyH.nil
  case hoc4p => (simp only [List.getElem?_toArray, List.getElem?_cons_succ, List.getElem?_cons_zero]; rfl)
  go_simp
  refine (EA.out _ _ (C1.out.below hS)).mono ?_
  rintro e wb ⟨rfl, hb⟩
  go_wp2_with fail
  refine hK.out _ _ (hS.trans (hb.mono hS.size)) (fun hHeld => ?_)
  clear hK K
  try simp only [Act.put, List.setIfInBounds_toArray, List.set_cons_succ, List.set_cons_zero]
  clear hS hb
  have hS := hHeld
  clear hHeld
  refine wpAnyH_ready (rs := [7]) (by kernel_rfl) (by simp) ?_
  refine' AllReadyH.cons ?hoc7p (fun K hK => ?stc7p) AllReadyH.nil
  case hoc7p => (simp only [List.getElem?_toArray, List.getElem?_cons_succ, List.getElem?_cons_zero]; rfl)
  go_simp
  refine (EB.out _ _ (C1.out.below hS)).mono ?_
  rintro e wc ⟨rfl, hb⟩
  go_wp2_with fail
  refine hK.out _ _ (hS.trans (hb.mono hS.size)) (fun hHeld => ?_)
  clear hK K
  try simp only [Act.put, List.setIfInBounds_toArray, List.set_cons_succ, List.set_cons_zero]
  clear hS hb
  have hS := hHeld
  clear hHeld
  refine' wpAnyH_take (i := 8) ?h1x8p ?hsx8p ?hfx8p ?hrx8p ?hQx8p (Or.inl ⟨?hwx8p, ?hyx8p⟩) hS ?restx8p
  case h1x8p => (simp only [List.getElem?_toArray, List.getElem?_cons_succ, List.getElem?_cons_zero]; rfl)
  case hsx8p => kernel_rfl
  case hfx8p => kernel_rfl
  case hrx8p => kernel_rfl
  case hQx8p => exact fun _ _ _ h => h
  case hwx8p => rfl
  case hyx8p =>
    intro W hW
    go_simp
    try with_reducible rfl
  simp only [Act.put, List.setIfInBounds_toArray, List.set_cons_succ, List.set_cons_zero]
  refine' wpAnyH_take (i := 12) ?h1x12p ?hsx12p ?hfx12p ?hrx12p ?hQx12p (Or.inl ⟨?hwx12p, ?hyx12p⟩) hS ?restx12p
  case h1x12p => (simp only [List.getElem?_toArray, List.getElem?_cons_succ, List.getElem?_cons_zero]; rfl)
  case hsx12p => kernel_rfl
  case hfx12p => kernel_rfl
  case hrx12p => kernel_rfl
  case hQx12p => exact fun _ _ _ h => h
  case hwx12p => rfl
  case hyx12p =>
    intro W hW
    go_simp
    try with_reducible rfl
  simp only [Act.put, List.setIfInBounds_toArray, List.set_cons_succ, List.set_cons_zero]
  refine' wpAnyH_take (i := 13) ?h1x13p ?hsx13p ?hfx13p ?hrx13p ?hQx13p (Or.inl ⟨?hwx13p, ?hyx13p⟩) hS ?restx13p
  case h1x13p => (simp only [List.getElem?_toArray, List.getElem?_cons_succ, List.getElem?_cons_zero]; rfl)
  case hsx13p => kernel_rfl
  case hfx13p => kernel_rfl
  case hrx13p => kernel_rfl
  case hQx13p => exact fun _ _ _ h => h
  case hwx13p => rfl
  case hyx13p =>
    intro W hW
    go_simp
    try with_reducible rfl
  simp only [Act.put, List.setIfInBounds_toArray, List.set_cons_succ, List.set_cons_zero]
  refine' wpAnyH_take (i := 14) ?h1x14p ?hsx14p ?hfx14p ?hrx14p ?hQx14p (Or.inl ⟨?hwx14p, ?hyx14p⟩) hS ?restx14p
  case h1x14p => (simp only [List.getElem?_toArray, List.getElem?_cons_succ, List.getElem?_cons_zero]; rfl)
  case hsx14p => kernel_rfl
  case hfx14p => kernel_rfl
  case hrx14p => kernel_rfl
  case hQx14p => exact fun _ _ _ h => h
  case hwx14p => rfl
  case hyx14p =>
    intro W hW
    go_simp
    try with_reducible rfl
  simp only [Act.put, List.setIfInBounds_toArray, List.set_cons_succ, List.set_cons_zero]
  refine' wpAnyH_take (i := 15) ?h1x15p ?hsx15p ?hfx15p ?hrx15p ?hQx15p (Or.inl ⟨?hwx15p, ?hyx15p⟩) hS ?restx15p
  case h1x15p => (simp only [List.getElem?_toArray, List.getElem?_cons_succ, List.getElem?_cons_zero]; rfl)
  case hsx15p => kernel_rfl
  case hfx15p => kernel_rfl
  case hrx15p => kernel_rfl
  case hQx15p => exact fun _ _ _ h => h
  case hwx15p => rfl
  case hyx15p =>
    intro W hW
    go_simp
    try with_reducible rfl
  simp only [Act.put, List.setIfInBounds_toArray, List.set_cons_succ, List.set_cons_zero]
  refine' wpAnyH_take (i := 16) ?h1x16p ?hsx16p ?hfx16p ?hrx16p ?hQx16p (yieldsIf_load_at ?hwx16p 37 (.tmp 4) ?hopx16p (w.heap.size + 1) 0 rfl (ncells a) _ (fun W hW => range_row ((hW.block _ (blk_lt G11.out)).trans G11.out)) Try.underlying37 rfl ?hix16p) hS ?restx16p
  case h1x16p => (simp only [List.getElem?_toArray, List.getElem?_cons_succ, List.getElem?_cons_zero]; rfl)
  case hopx16p => rfl
  case hsx16p => kernel_rfl
  case hfx16p => kernel_rfl
  case hrx16p => kernel_rfl
  case hQx16p => exact fun _ _ _ h => h
  case hwx16p => rfl
  case hix16p => exact (i47 AL.out)
  simp only [Act.put, List.setIfInBounds_toArray, List.set_cons_succ, List.set_cons_zero]
  refine' wpAnyH_take (i := 18) ?h1x18p ?hsx18p ?hfx18p ?hrx18p ?hQx18p (Or.inl ⟨?hwx18p, ?hyx18p⟩) hS ?restx18p
  case h1x18p => (simp only [List.getElem?_toArray, List.getElem?_cons_succ, List.getElem?_cons_zero]; rfl)
  case hsx18p => kernel_rfl
  case hfx18p => kernel_rfl
  case hrx18p => kernel_rfl
  case hQx18p => exact fun _ _ _ h => h
  case hwx18p => rfl
  case hyx18p =>
    intro W hW
    go_simp
    try with_reducible rfl
  simp only [Act.put, List.setIfInBounds_toArray, List.set_cons_succ, List.set_cons_zero]
  refine' wpAnyH_take (i := 19) ?h1x19p ?hsx19p ?hfx19p ?hrx19p ?hQx19p (yieldsIf_load_at ?hwx19p 37 (.tmp 5) ?hopx19p (w.heap.size + 1 + 1) 0 rfl (ncells b) _ (fun W hW => range_row ((hW.block _ (blk_lt G21.out)).trans G21.out)) Try.underlying37 rfl ?hix19p) hS ?restx19p
  case h1x19p => (simp only [List.getElem?_toArray, List.getElem?_cons_succ, List.getElem?_cons_zero]; rfl)
  case hopx19p => rfl
  case hsx19p => kernel_rfl
  case hfx19p => kernel_rfl
  case hrx19p => kernel_rfl
  case hQx19p => exact fun _ _ _ h => h
  case hwx19p => rfl
  case hix19p => exact (i47 BL.out)
  simp only [Act.put, List.setIfInBounds_toArray, List.set_cons_succ, List.set_cons_zero]
  refine' wpAnyH_take (i := 22) ?h1x22p ?hsx22p ?hfx22p ?hrx22p ?hQx22p (yieldsIf_load_at ?hwx22p 37 (.tmp 4) ?hopx22p (w.heap.size + 1) 0 rfl (ncells a) _ (fun W hW => range_row ((hW.block _ (blk_lt G11.out)).trans G11.out)) Try.underlying37 rfl ?hix22p) hS ?restx22p
  case h1x22p => (simp only [List.getElem?_toArray, List.getElem?_cons_succ, List.getElem?_cons_zero]; rfl)
  case hopx22p => rfl
  case hsx22p => kernel_rfl
  case hfx22p => kernel_rfl
  case hrx22p => kernel_rfl
  case hQx22p => exact fun _ _ _ h => h
  case hwx22p => rfl
  case hix22p => exact (i47 AL.out)
  simp only [Act.put, List.setIfInBounds_toArray, List.set_cons_succ, List.set_cons_zero]
  refine' wpAnyH_take (i := 23) ?h1x23p ?hsx23p ?hfx23p ?hrx23p ?hQx23p (yieldsIf_load_at ?hwx23p 37 (.tmp 5) ?hopx23p (w.heap.size + 1 + 1) 0 rfl (ncells b) _ (fun W hW => range_row ((hW.block _ (blk_lt G21.out)).trans G21.out)) Try.underlying37 rfl ?hix23p) hS ?restx23p
  case h1x23p => (simp only [List.getElem?_toArray, List.getElem?_cons_succ, List.getElem?_cons_zero]; rfl)
  case hopx23p => rfl
  case hsx23p => kernel_rfl
  case hfx23p => kernel_rfl
  case hrx23p => kernel_rfl
  case hQx23p => exact fun _ _ _ h => h
  case hwx23p => rfl
  case hix23p => exact (i47 BL.out)
  simp only [Act.put, List.setIfInBounds_toArray, List.set_cons_succ, List.set_cons_zero]
  refine' wpAnyH_take (i := 24) ?h1x24p ?hsx24p ?hfx24p ?hrx24p ?hQx24p (Or.inl ⟨?hwx24p, ?hyx24p⟩) hS ?restx24p
  case h1x24p => (simp only [List.getElem?_toArray, List.getElem?_cons_succ, List.getElem?_cons_zero]; rfl)
  case hsx24p => kernel_rfl
  case hfx24p => kernel_rfl
  case hrx24p => kernel_rfl
  case hQx24p => exact fun _ _ _ h => h
  case hwx24p => rfl
  case hyx24p =>
    intro W hW
    go_simp
    try with_reducible rfl
  simp only [Act.put, List.setIfInBounds_toArray, List.set_cons_succ, List.set_cons_zero]
  refine wpAnyH_ready (rs := [17]) (by kernel_rfl) (by simp) ?_
  refine' AllReadyH.cons ?hoc17p (fun K hK => ?stc17p) AllReadyH.nil
  case hoc17p => (simp only [List.getElem?_toArray, List.getElem?_cons_succ, List.getElem?_cons_zero]; rfl)
  go_simp
  refine (DA.out _ _ (C1.out.below hS)).mono ?_
  rintro e wd ⟨rfl, hb⟩
  go_wp2_with fail
  refine hK.out _ _ (hS.trans (hb.mono hS.size)) (fun hHeld => ?_)
  clear hK K
  try simp only [Act.put, List.setIfInBounds_toArray, List.set_cons_succ, List.set_cons_zero]
  clear hS hb
  have hS := hHeld
  clear hHeld
  refine wpAnyH_ready (rs := [20]) (by kernel_rfl) (by simp) ?_
  refine' AllReadyH.cons ?hoc20p (fun K hK => ?stc20p) AllReadyH.nil
  case hoc20p => (simp only [List.getElem?_toArray, List.getElem?_cons_succ, List.getElem?_cons_zero]; rfl)
  go_simp
  refine (DB.out _ _ (C1.out.below hS)).mono ?_
  rintro e we ⟨rfl, hb⟩
  go_wp2_with fail
  refine hK.out _ _ (hS.trans (hb.mono hS.size)) (fun hHeld => ?_)
  clear hK K
  try simp only [Act.put, List.setIfInBounds_toArray, List.set_cons_succ, List.set_cons_zero]
  clear hS hb
  have hS := hHeld
  clear hHeld
  refine' wpAnyH_take (i := 21) ?h1x21p ?hsx21p ?hfx21p ?hrx21p ?hQx21p (Or.inl ⟨?hwx21p, ?hyx21p⟩) hS ?restx21p
  case h1x21p => (simp only [List.getElem?_toArray, List.getElem?_cons_succ, List.getElem?_cons_zero]; rfl)
  case hsx21p => kernel_rfl
  case hfx21p => kernel_rfl
  case hrx21p => kernel_rfl
  case hQx21p => exact fun _ _ _ h => h
  case hwx21p => rfl
  case hyx21p =>
    intro W hW
    go_simp
    try with_reducible rfl
  simp only [Act.put, List.setIfInBounds_toArray, List.set_cons_succ, List.set_cons_zero]
  refine' wpAnyH_take (i := 25) ?h1x25p ?hsx25p ?hfx25p ?hrx25p ?hQx25p (Or.inl ⟨?hwx25p, ?hyx25p⟩) hS ?restx25p
  case h1x25p => (simp only [List.getElem?_toArray, List.getElem?_cons_succ, List.getElem?_cons_zero]; rfl)
  case hsx25p => kernel_rfl
  case hfx25p => kernel_rfl
  case hrx25p => kernel_rfl
  case hQx25p => exact fun _ _ _ h => h
  case hwx25p => rfl
  case hyx25p =>
    intro W hW
    go_simp
    try with_reducible rfl
  simp only [Act.put, List.setIfInBounds_toArray, List.set_cons_succ, List.set_cons_zero]
  refine' wpAnyH_take (i := 26) ?h1x26p ?hsx26p ?hfx26p ?hrx26p ?hQx26p (Or.inl ⟨?hwx26p, ?hyx26p⟩) hS ?restx26p
  case h1x26p => (simp only [List.getElem?_toArray, List.getElem?_cons_succ, List.getElem?_cons_zero]; rfl)
  case hsx26p => kernel_rfl
  case hfx26p => kernel_rfl
  case hrx26p => kernel_rfl
  case hQx26p => exact fun _ _ _ h => h
  case hwx26p => rfl
  case hyx26p =>
    intro W hW
    go_simp
    try with_reducible rfl
  simp only [Act.put, List.setIfInBounds_toArray, List.set_cons_succ, List.set_cons_zero]
  refine' wpAnyH_take (i := 27) ?h1x27p ?hsx27p ?hfx27p ?hrx27p ?hQx27p (Or.inl ⟨?hwx27p, ?hyx27p⟩) hS ?restx27p
  case h1x27p => (simp only [List.getElem?_toArray, List.getElem?_cons_succ, List.getElem?_cons_zero]; rfl)
  case hsx27p => kernel_rfl
  case hfx27p => kernel_rfl
  case hrx27p => kernel_rfl
  case hQx27p => exact fun _ _ _ h => h
  case hwx27p => rfl
  case hyx27p =>
    intro W hW
    go_simp
    try with_reducible rfl
  simp only [Act.put, List.setIfInBounds_toArray, List.set_cons_succ, List.set_cons_zero]
  refine wpAnyH_done (by kernel_rfl) ?_ _
  go_wp2_with fail
  go_ret
  exact ⟨rfl, BB1.out.trans (hS.mono BB1.out.size)⟩

set_option maxRecDepth 100000 in
theorem lifted (os : Os) (started : os.Started) (H : Type) (enc : TypeId × Value → H) :
    ReturnsInHanded {} Try.checked os 6 .any (Rows.aesApartSpec.pre6 enc Try.prog Try.f6 Rows.aesApartRow.domain false) (Rows.aesApartSpec.post enc Try.prog Try.f6 false true false false) := by
  refine returnsInHanded_of_change (C := Try.checked) own started (by kernel_rfl) Try.func6
    (ChangeSpec.witness6 (enc := enc) (C := Try.checked) false ⟨#[], #[.agg (Array.replicate 32 (.int .u8 0)), .agg (Array.replicate 16 (.int .u8 0)), .agg (Array.replicate 16 (.int .u8 0))], []⟩ 8 (by kernel_rfl) (by kernel_rfl) (by kernel_rfl) (by kernel_rfl)) ?_
  intro W base args ds gs before hval0 hW hcnd _
  have hval : ∀ (j : Nat) t v, Try.f6.params[j]? = some t → args[j]? = some v → Value.okWide Try.prog W .any base t v := hval0
  have hW' := hW
  obtain ⟨p, q, hA0, hV, rfl, hfz, hnd⟩ := hW
  have hA : DataW.TrodAll enc Try.prog W 0 (fun _ => true) true Try.f6.params.toList args.toList ds p := hA0
  rw [Try.params6] at hA hval
  obtain ⟨v0, vs0, d0, ds0, p0, q0, hargs, rfl, rfl, h0, r0⟩ := trodAll_cons hA
  obtain ⟨v1, vs1, d1, ds1, p1, q1, rfl, rfl, rfl, h1, r1⟩ := trodAll_cons r0
  obtain ⟨v2, vs2, d2, ds2, p2, q2, rfl, rfl, rfl, h2, r2⟩ := trodAll_cons r1
  obtain ⟨rfl, rfl, rfl⟩ := trodAll_nil r2
  obtain rfl : args = #[v0, v1, v2] := by cases args; simp_all
  obtain ⟨rfl, rfl⟩ := trodVars_none hV
  obtain ⟨x0, b0, rfl⟩ := open_arr u23 cellsOf23 (hval 0 23 v0 rfl rfl) h0
  obtain ⟨x1, b1, rfl⟩ := open_arr u37 cellsOf37 (hval 1 37 v1 rfl rfl) h1
  obtain ⟨x2, b2, rfl⟩ := open_arr u37 cellsOf37 (hval 2 37 v2 rfl rfl) h2
  refine (walk x0 x1 x2 b0 b1 b2 W).mono fun e W' ⟨he, hb⟩ => ?_
  subst he
  exact ⟨_, rfl, law_post hW' rfl rfl rfl (by kernel_rfl) hb⟩

/-- The statement. -/
theorem proved : Rows.AesApartSaid :=
  OpenClaim.holds_of_wide 6 Try.f6 rfl rfl rfl rfl rfl rfl rfl ⟨rfl, rfl, rfl, rfl, rfl⟩ rfl rfl rfl rfl rfl (by kernel_rfl) Try.func6 (by kernel_rfl)
    (of_decide_eq_true (by kernel_rfl)) (by unfold Func.isWrapper; first | (rw [if_pos (by decide +kernel)]; kernel_rfl) | (rw [if_neg (by decide +kernel)]; exact ⟨rfl, rfl⟩))
    (fun os started H enc _ => lifted os started H enc)
#print axioms proved
end Go.Proofs.Ytekffhopmicalaa.aesApart
