/-
  For every key and block the law AesTurns of package casematelaw05 returns true, and they read afterwards as before: each block is turned, and turned back, as the document says. Condition: none.
-/
import Derived.Test.YtekffhopmicalaaRefG
import Derived.Test.YtekffhopmicalaaAesAl
import Derived.Deep.DeepCutAuto
namespace Go.Proofs.Ytekffhopmicalaa.aesTurns
open Go.ChangeShapes Go.WideShapes Go.ChangeAt Go.RowKit
theorem bkn_congr {R R' : Nat → List Nat} (b : List Nat) (h : ∀ i, i ≤ 14 → R i = R' i) : ∀ n, n ≤ 14 → bkn R b n = bkn R' b n
  | 0, _ => rfl
  | n + 1, hn => by rw [bkn, bkn, h (14 - n) (by omega), bkn_congr b h n (by omega)]
theorem back_flat (key b : List Nat) : back (rkf (flat key)) b = back (rkey key) b := by
  unfold back
  rw [bkn_congr b (fun i hi => rkf_flat key i hi) 14 (by omega), rkf_flat key 0 (by omega)]
theorem at_zeros (n i : Nat) : at_ (zeros n) i = 0 := by
  unfold at_ zeros
  simp [List.getD, List.getElem?_replicate]
  split <;> rfl
theorem bts_zeros (n : Nat) : Bts n (zeros n) := bts_of (zeros_len n) (fun i _ => by rw [at_zeros]; omega)
theorem sb_zeros (X : List Nat) : sb (zeros 256) X = zeros 16 := by
  unfold sb
  have : (fun i => at_ (zeros 256) (at_ X i)) = fun _ => 0 := funext fun i => at_zeros _ _
  rw [this]; rfl
theorem back_zeros (b : List Nat) : backT (zeros 256) (rkf (zeros 240)) b = zeros 16 := by
  unfold backT
  have e : bkT (zeros 256) (rkf (zeros 240)) b 14 = zeros 16 := sb_zeros _
  rw [e]
  decide +kernel
set_option maxRecDepth 100000 in
set_option maxHeartbeats 8000000 in
theorem walk (key b : List Nat) (hk : Bts 32 key) (hb' : Bts 16 b) (w : World) : Calls Try.prog 4 #[.agg (ncells key), .agg (ncells b)] w fun e w' => e = .returned (.bool true) ∧ Below w.heap.size w w' := by
  have EB : Hid (Bts 16 (enc key b)) := enc_bts hk hb'
  have DB : Hid (Bts 16 (dec key b)) := dec_bts hk hb'
  have E1 : Hid (∀ (g : Nat) (W : World), CIat W g (flat key) → Calls Try.prog 21 #[.pointer (some ⟨g, 0, none⟩), .agg (ncells b)] W fun e w' => e = .returned (.agg (ncells (enc key b))) ∧ Below W.heap.size W w') := fun g W h => encC hk hb' g W h
  have D1 : Hid (∀ (g : Nat) (W : World), CIat W g (flat key) → Calls Try.prog 22 #[.pointer (some ⟨g, 0, none⟩), .agg (ncells b)] W fun e w' => e = .returned (.agg (ncells (dec key b))) ∧ Below W.heap.size W w') := fun g W h => decC hk hb' g W h
  have RT : Hid (∀ (g : Nat) (W : World) (q : Nat), RC W g key → W.heap[q]? = some (.cells (ncells b) 37 (0, 0)) → Calls Try.prog 23 #[.pointer (some ⟨g, 0, none⟩), .slice (some ⟨q, 0, none⟩) 16 16] W (SP W (enc key b))) := fun g W q h1 h2 => by
    have := refTurn g key b (some ⟨q, 0, none⟩) 16 W hk hb' h1 (sees_row W q b hb'.2 (by rw [hb'.1]; simp [maxLen]) h2 16 hb'.1.symm)
    rw [← turn_flat] at this; exact this
  have RB : Hid (∀ (g : Nat) (W : World) (q : Nat), RC W g key → W.heap[q]? = some (.cells (ncells b) 37 (0, 0)) → Calls Try.prog 24 #[.pointer (some ⟨g, 0, none⟩), .slice (some ⟨q, 0, none⟩) 16 16] W (SP W (dec key b))) := fun g W q h1 h2 => by
    have := refBack g key b (some ⟨q, 0, none⟩) 16 W hk hb' h1 (sees_row W q b hb'.2 (by rw [hb'.1]; simp [maxLen]) h2 16 hb'.1.symm)
    rw [← back_flat] at this; exact this
  have TN : Hid (∀ W : World, Calls Try.prog 21 #[.pointer none, .agg (ncells b)] W fun e w' => e = .returned (.agg (ncells (zeros 16))) ∧ Below W.heap.size W w') := fun W => turnNil b W
  have BZ : Hid (∀ (g : Nat) (W : World), W.heap[g]? = some (.cells (ncells (zeros 752)) 41 (0, 0)) → Calls Try.prog 22 #[.pointer (some ⟨g, 0, none⟩), .agg (ncells b)] W fun e w' => e = .returned (.agg (ncells (zeros 16))) ∧ Below W.heap.size W w') := fun g W h => by
    have := backC (zeros 240) (zeros 256) b (bts_zeros 240) (bts_zeros 256) hb' g W (fun j hj => by rw [cell_at h (zeros_len 752) (show j < 752 by omega), at_zeros, at_zeros]) (fun j hj => by rw [cell_at h (zeros_len 752) (show 496 + j < 752 by omega), at_zeros, at_zeros])
    rw [back_zeros] at this; exact this
  have NW : Hid (∀ W : World, Calls Try.prog 17 #[.agg (ncells key)] W (NewP W (flat key))) := fun W => newC key hk W
  have RN : Hid (∀ (W : World) (q : Nat), W.heap[q]? = some (.cells (ncells key) 23 (0, 0)) → Calls Try.prog 18 #[.slice (some ⟨q, 0, none⟩) 32 32] W fun e w' => ∃ g, e = .returned (.pointer (some ⟨g, 0, none⟩)) ∧ RC w' g key ∧ Below W.heap.size W w') := fun W q h =>
    refNew key q 0 32 W hk (fun i hi => by rw [Nat.zero_add]; exact cell_at h hk.1 hi) (Nat.le_refl _) (by simp [maxLen])
  have EQ : Hid (∀ W : World, (Op.equalIn 10000 37 (.agg (ncells (zeros 16))) (.agg (ncells (zeros 16)))).run Try.prog W = .ok true W) := fun W => by
    have := eq37 (zeros 16) (zeros 16) (bts_zeros 16) (bts_zeros 16) W
    simpa using this
  have KL := Lib.hid hk.1
  have BL := Lib.hid hb'.1
  have zz := zero47
  have bb := build37
  have hz41 : Try.zeroCells41 = ncells (zeros 752) := by kernel_rfl
  obtain ⟨ZZ, hZZ⟩ : ∃ ZZ, ZZ = ncells (zeros 752) := ⟨_, rfl⟩
  rw [← hZZ] at hz41 BZ
  obtain ⟨Z, hZ⟩ : ∃ Z, Z = ncells (zeros 16) := ⟨_, rfl⟩
  rw [← hZ] at zz bb TN BZ EQ
  have ZL : Hid (∀ l : List Nat, l.length = 16 → Z.size = (ncells l).size) := fun l hl => by rw [hZ]; exact z47 hl
  have SR : Hid (∀ (W : World) (g : Nat) (l : List Nat), Bts 16 l → W.heap[g]? = some (.cells (ncells l) 37 (0, 0)) → (convert 28 9 (.slice (some ⟨g, 0, none⟩) 16 16)).run Try.prog W = .ok (.string (strN l)) W) := fun W g l hl h => (sees_row W g l hl.2 (by rw [hl.1]; simp [maxLen]) h 16 hl.1.symm).str
  generalize flat key = F at *
  generalize enc key b = J at *
  generalize dec key b = I at *
  have SQ1 : Hid (((strN J).toList == (strN J).toList) = true) := by show _ = _; simp
  have SQ2 : Hid (((strN I).toList == (strN I).toList) = true) := by show _ = _; simp
  obtain ⟨W0, hW0⟩ : ∃ W0, W0 = (w.alloc (.cells (ncells key) 23)).alloc (.cells (ncells b) 37) := ⟨_, rfl⟩
  have HB : Hid (Below w.heap.size w W0) := by rw [hW0]; exact ((Below.refl _ _).alloc (Nat.le_refl _) _).alloc (by simp) _
  have G0 : Hid (W0.heap[w.heap.size]? = some (.cells (ncells key) 23 (0, 0))) := by show _ = _; rw [hW0, Below.heap_alloc _ _ _ (by simp)]; exact heap_alloc_new w _
  have G1 : Hid (W0.heap[w.heap.size + 1]? = some (.cells (ncells b) 37 (0, 0))) := by show _ = _; rw [hW0]; exact heap_alloc2_new w _ _
  have HW0 := Lib.hid hW0
  clear hW0 hk hb' hZ hZZ
  go_enter Try.func4, Try.ntmps4
  go_wp2_with (first
    | (refine wpList_load_row rfl 23 (.tmp 2) rfl w.heap.size rfl 23 (ncells key) (0, 0) _ (by rw [← HW0.out]; exact G0.out) Try.underlying23 rfl (i23 KL.out) ?_))
  rw [← HW0.out]
  refine (NW.out _).mono ?_
  rintro e w1 ⟨g, rfl, hge, hci, hb⟩
  have C1 := Lib.hid hci
  have B1 := Lib.hid (HB.out.trans (hb.mono HB.out.size))
  have G01 := Lib.hid ((hb.block _ (blk_lt G0.out)).trans G0.out)
  have G11 := Lib.hid ((hb.block _ (blk_lt G1.out)).trans G1.out)
  clear hci hb hge G0 G1 HB HW0
  go_wp2_with fail
  refine (RN.out _ _ G01.out).mono ?_
  rintro e w2 ⟨gx, rfl, hrc, hb⟩
  have RX := Lib.hid hrc
  have C2 := Lib.hid (C1.out.below hb)
  have G12 := Lib.hid ((hb.block _ (blk_lt G11.out)).trans G11.out)
  have B2 := Lib.hid (B1.out.trans (hb.mono B1.out.size))
  clear hrc hb C1 G01 G11 B1 RN NW
  go_upto_region 5 with fail
  go_cut [7, 8] (fun s7 s8 wx => ∃ g7 g8, s7 = .pointer (some ⟨g7, 0, none⟩) ∧ s8 = .pointer (some ⟨g8, 0, none⟩) ∧ wx.heap[g7]? = some (.cells (ncells J) 37 (0, 0)) ∧ wx.heap[g8]? = some (.cells (ncells I) 37 (0, 0)) ∧ Below w2.heap.size w2 wx)
  case first =>
    refine wp_region_held_drew (S := fun W => Below w2.heap.size w2 W) (by kernel_rfl) (Below.refl _ _).drew (fun hS => ?_)
    refine' wpAnyH_take (i := 0) ?h1x0p ?hsx0p ?hfx0p ?hrx0p ?hQx0p (Or.inl ⟨?hwx0p, ?hyx0p⟩) hS ?restx0p
    case h1x0p => (simp only [List.getElem?_toArray, List.getElem?_cons_zero]; rfl)
    case hsx0p => kernel_rfl
    case hfx0p => kernel_rfl
    case hrx0p => kernel_rfl
    case hQx0p => exact fun _ _ _ h => h
    case hwx0p => rfl
    case hyx0p =>
      intro W hW
      go_simp
      try with_reducible rfl
    simp only [Act.put, List.setIfInBounds_toArray, List.set_cons_succ, List.set_cons_zero]
    refine' wpAnyH_take (i := 1) ?h1x1p ?hsx1p ?hfx1p ?hrx1p ?hQx1p (yieldsIf_load_at ?hwx1p 37 (.tmp 3) ?hopx1p (w.heap.size + 1) 0 rfl (ncells b) _ (fun W hW => range_row ((hW.block _ (blk_lt G12.out)).trans G12.out)) Try.underlying37 rfl ?hix1p) hS ?restx1p
    case h1x1p => (simp only [List.getElem?_toArray, List.getElem?_cons_succ, List.getElem?_cons_zero]; rfl)
    case hopx1p => rfl
    case hsx1p => kernel_rfl
    case hfx1p => kernel_rfl
    case hrx1p => kernel_rfl
    case hQx1p => exact fun _ _ _ h => h
    case hwx1p => rfl
    case hix1p => exact (i47 BL.out)
    simp only [Act.put, List.setIfInBounds_toArray, List.set_cons_succ, List.set_cons_zero]
    refine' wpAnyH_take (i := 3) ?h1x3p ?hsx3p ?hfx3p ?hrx3p ?hQx3p (Or.inl ⟨?hwx3p, ?hyx3p⟩) hS ?restx3p
    case h1x3p => (simp only [List.getElem?_toArray, List.getElem?_cons_succ, List.getElem?_cons_zero]; rfl)
    case hsx3p => kernel_rfl
    case hfx3p => kernel_rfl
    case hrx3p => kernel_rfl
    case hQx3p => exact fun _ _ _ h => h
    case hwx3p => rfl
    case hyx3p =>
      intro W hW
      go_simp
      try with_reducible rfl
    simp only [Act.put, List.setIfInBounds_toArray, List.set_cons_succ, List.set_cons_zero]
    refine' wpAnyH_take (i := 4) ?h1x4p ?hsx4p ?hfx4p ?hrx4p ?hQx4p (yieldsIf_load_at ?hwx4p 37 (.tmp 3) ?hopx4p (w.heap.size + 1) 0 rfl (ncells b) _ (fun W hW => range_row ((hW.block _ (blk_lt G12.out)).trans G12.out)) Try.underlying37 rfl ?hix4p) hS ?restx4p
    case h1x4p => (simp only [List.getElem?_toArray, List.getElem?_cons_succ, List.getElem?_cons_zero]; rfl)
    case hopx4p => rfl
    case hsx4p => kernel_rfl
    case hfx4p => kernel_rfl
    case hrx4p => kernel_rfl
    case hQx4p => exact fun _ _ _ h => h
    case hwx4p => rfl
    case hix4p => exact (i47 BL.out)
    simp only [Act.put, List.setIfInBounds_toArray, List.set_cons_succ, List.set_cons_zero]
    generalize hWd : w2.drew = Wd at hS ⊢
    clear hWd
    refine wpAnyH_ready (rs := [2, 6, 7]) (by kernel_rfl) (by simp) ?_
    refine' (AllReadyH.cons ?hoc2n (fun K hK => ?stc2n) (AllReadyH.cons ?hoc6n (fun K hK => ?stc6n) (AllReadyH.cons ?hoc7n (fun K hK => ?stc7n) AllReadyH.nil)))
    case hoc2n => (simp only [List.getElem?_toArray, List.getElem?_cons_succ, List.getElem?_cons_zero]; rfl)
    case hoc6n => (simp only [List.getElem?_toArray, List.getElem?_cons_succ, List.getElem?_cons_zero]; rfl)
    case hoc7n => (simp only [List.getElem?_toArray, List.getElem?_cons_succ, List.getElem?_cons_zero]; rfl)
    case stc2n =>
      go_simp
      refine (E1.out _ _ (C2.out.below hS)).mono ?_
      rintro e Wn2 ⟨rfl, hb⟩
      go_wp2_with fail
      refine hK.out _ _ (hS.trans (hb.mono hS.size)) (fun hHeld => ?_)
      clear hK K
      try simp only [Act.put, List.setIfInBounds_toArray, List.set_cons_succ, List.set_cons_zero]
      clear hS hb
      have hS := hHeld
      clear hHeld
      refine wpAnyH_ready (rs := [5, 6, 7]) (by kernel_rfl) (by simp) ?_
      refine' (AllReadyH.cons ?hoc5n2 (fun K hK => ?stc5n2) (AllReadyH.cons ?hoc6n2 (fun K hK => ?stc6n2) (AllReadyH.cons ?hoc7n2 (fun K hK => ?stc7n2) AllReadyH.nil)))
      case hoc5n2 => (simp only [List.getElem?_toArray, List.getElem?_cons_succ, List.getElem?_cons_zero]; rfl)
      case hoc6n2 => (simp only [List.getElem?_toArray, List.getElem?_cons_succ, List.getElem?_cons_zero]; rfl)
      case hoc7n2 => (simp only [List.getElem?_toArray, List.getElem?_cons_succ, List.getElem?_cons_zero]; rfl)
      case stc5n2 =>
        go_simp
        refine (D1.out _ _ (C2.out.below hS)).mono ?_
        rintro e Wn25 ⟨rfl, hb⟩
        go_wp2_with fail
        refine hK.out _ _ (hS.trans (hb.mono hS.size)) (fun hHeld => ?_)
        clear hK K
        try simp only [Act.put, List.setIfInBounds_toArray, List.set_cons_succ, List.set_cons_zero]
        clear hS hb
        have hS := hHeld
        clear hHeld
        refine wpAnyH_ready (rs := [6, 7]) (by kernel_rfl) (by simp) ?_
        refine' (AllReadyH.cons ?hoc6n25 (fun K hK => ?stc6n25) (AllReadyH.cons ?hoc7n25 (fun K hK => ?stc7n25) AllReadyH.nil))
        case hoc6n25 => (simp only [List.getElem?_toArray, List.getElem?_cons_succ, List.getElem?_cons_zero]; rfl)
        case hoc7n25 => (simp only [List.getElem?_toArray, List.getElem?_cons_succ, List.getElem?_cons_zero]; rfl)
        case stc6n25 =>
          go_simp
          refine hK.out _ _ (hS.alloc hS.size _) (fun hHeld => ?_)
          clear hK K
          try simp only [Act.put, List.setIfInBounds_toArray, List.set_cons_succ, List.set_cons_zero]
          have hz7 := heap_alloc_new Wn25 (.cells Z 37)
          have hb := (Below.refl Wn25.heap.size Wn25).alloc (Nat.le_refl _) (.cells Z 37)
          have hg7 := hS.size
          clear hS hb
          have hS := hHeld
          clear hHeld
          generalize Wn25.alloc (.cells Z 37) = Wn256 at *
          generalize Wn25.heap.size = g7 at *
          refine wpAnyH_ready (rs := [7]) (by kernel_rfl) (by simp) ?_
          refine' AllReadyH.cons ?hoc7n256 (fun K hK => ?stc7n256) AllReadyH.nil
          case hoc7n256 => (simp only [List.getElem?_toArray, List.getElem?_cons_succ, List.getElem?_cons_zero]; rfl)
          go_simp
          refine hK.out _ _ (hS.alloc hS.size _) (fun hHeld => ?_)
          clear hK K
          try simp only [Act.put, List.setIfInBounds_toArray, List.set_cons_succ, List.set_cons_zero]
          have hz8 := heap_alloc_new Wn256 (.cells Z 37)
          have hb := (Below.refl Wn256.heap.size Wn256).alloc (Nat.le_refl _) (.cells Z 37)
          have hg8 := hS.size
          have hne : g7 ≠ Wn256.heap.size := by have := blk_lt hz7; omega
          have hz7 := (hb.block _ (blk_lt hz7)).trans hz7
          clear hS hb
          have hS := hHeld
          clear hHeld
          generalize Wn256.alloc (.cells Z 37) = Wn2567 at *
          generalize Wn256.heap.size = g8 at *
          refine wpAnyH_ready (rs := [8]) (by kernel_rfl) (by simp) ?_
          refine' AllReadyH.cons ?hoc8n2567 (fun K hK => ?stc8n2567) AllReadyH.nil
          case hoc8n2567 => (simp only [List.getElem?_toArray, List.getElem?_cons_succ, List.getElem?_cons_zero]; rfl)
          refine step_store_row rfl 37 (.tmp 7) (.tmp 19) rfl g7 (ncells J) rfl rfl 37 _ hz7 (i47 EB.out.1) (ZL.out _ EB.out.1) (none_ _) ?_
          refine hK.out _ _ (hS.trans (below_row _ _ hg7)) (fun hHeld => ?_)
          clear hK K
          simp only [Act.put]
          have r7 := setRow_heap _ g7 _ (ncells J) _ _ hz7
          have hz8 : (Wn2567.setRow g7 (ncells J)).heap[g8]? = some (.cells Z 37 (0, 0)) := by rw [setRow_other _ _ _ _ (Ne.symm hne)]; exact hz8
          clear hS
          have hS := hHeld
          clear hHeld
          refine wpAnyH_ready (rs := [9]) (by kernel_rfl) (by simp) ?_
          refine' AllReadyH.cons ?hoc9n2567 (fun K hK => ?stc9n2567) AllReadyH.nil
          case hoc9n2567 => (simp only [List.getElem?_toArray, List.getElem?_cons_succ, List.getElem?_cons_zero]; rfl)
          refine step_store_row rfl 37 (.tmp 8) (.tmp 22) rfl g8 (ncells I) rfl rfl 37 _ hz8 (i47 DB.out.1) (ZL.out _ DB.out.1) (none_ _) ?_
          refine hK.out _ _ (hS.trans (below_row _ _ hg8)) (fun hHeld => ?_)
          clear hK K
          simp only [Act.put]
          refine wpAnyH_done (by kernel_rfl) ?_ _
          have r7 : ((Wn2567.setRow g7 (ncells J)).setRow g8 (ncells I)).heap[g7]? = some (.cells (ncells J) 37 (0, 0)) := by rw [setRow_other _ _ _ _ hne]; exact r7
          have r8 := setRow_heap _ g8 _ (ncells I) _ _ hz8
          go_wp2_with fail
          go_meet
          exact ⟨g7, g8, rfl, rfl, r7, r8, hHeld⟩
        case stc7n25 =>
          go_simp
          refine hK.out _ _ (hS.alloc hS.size _) (fun hHeld => ?_)
          clear hK K
          try simp only [Act.put, List.setIfInBounds_toArray, List.set_cons_succ, List.set_cons_zero]
          have hz8 := heap_alloc_new Wn25 (.cells Z 37)
          have hb := (Below.refl Wn25.heap.size Wn25).alloc (Nat.le_refl _) (.cells Z 37)
          have hg8 := hS.size
          clear hS hb
          have hS := hHeld
          clear hHeld
          generalize Wn25.alloc (.cells Z 37) = Wn257 at *
          generalize Wn25.heap.size = g8 at *
          refine wpAnyH_ready (rs := [6]) (by kernel_rfl) (by simp) ?_
          refine' AllReadyH.cons ?hoc6n257 (fun K hK => ?stc6n257) AllReadyH.nil
          case hoc6n257 => (simp only [List.getElem?_toArray, List.getElem?_cons_succ, List.getElem?_cons_zero]; rfl)
          go_simp
          refine hK.out _ _ (hS.alloc hS.size _) (fun hHeld => ?_)
          clear hK K
          try simp only [Act.put, List.setIfInBounds_toArray, List.set_cons_succ, List.set_cons_zero]
          have hz7 := heap_alloc_new Wn257 (.cells Z 37)
          have hb := (Below.refl Wn257.heap.size Wn257).alloc (Nat.le_refl _) (.cells Z 37)
          have hg7 := hS.size
          have hne : Wn257.heap.size ≠ g8 := by have := blk_lt hz8; omega
          have hz8 := (hb.block _ (blk_lt hz8)).trans hz8
          clear hS hb
          have hS := hHeld
          clear hHeld
          generalize Wn257.alloc (.cells Z 37) = Wn2576 at *
          generalize Wn257.heap.size = g7 at *
          refine wpAnyH_ready (rs := [8]) (by kernel_rfl) (by simp) ?_
          refine' AllReadyH.cons ?hoc8n2576 (fun K hK => ?stc8n2576) AllReadyH.nil
          case hoc8n2576 => (simp only [List.getElem?_toArray, List.getElem?_cons_succ, List.getElem?_cons_zero]; rfl)
          refine step_store_row rfl 37 (.tmp 7) (.tmp 19) rfl g7 (ncells J) rfl rfl 37 _ hz7 (i47 EB.out.1) (ZL.out _ EB.out.1) (none_ _) ?_
          refine hK.out _ _ (hS.trans (below_row _ _ hg7)) (fun hHeld => ?_)
          clear hK K
          simp only [Act.put]
          have r7 := setRow_heap _ g7 _ (ncells J) _ _ hz7
          have hz8 : (Wn2576.setRow g7 (ncells J)).heap[g8]? = some (.cells Z 37 (0, 0)) := by rw [setRow_other _ _ _ _ (Ne.symm hne)]; exact hz8
          clear hS
          have hS := hHeld
          clear hHeld
          refine wpAnyH_ready (rs := [9]) (by kernel_rfl) (by simp) ?_
          refine' AllReadyH.cons ?hoc9n2576 (fun K hK => ?stc9n2576) AllReadyH.nil
          case hoc9n2576 => (simp only [List.getElem?_toArray, List.getElem?_cons_succ, List.getElem?_cons_zero]; rfl)
          refine step_store_row rfl 37 (.tmp 8) (.tmp 22) rfl g8 (ncells I) rfl rfl 37 _ hz8 (i47 DB.out.1) (ZL.out _ DB.out.1) (none_ _) ?_
          refine hK.out _ _ (hS.trans (below_row _ _ hg8)) (fun hHeld => ?_)
          clear hK K
          simp only [Act.put]
          refine wpAnyH_done (by kernel_rfl) ?_ _
          have r7 : ((Wn2576.setRow g7 (ncells J)).setRow g8 (ncells I)).heap[g7]? = some (.cells (ncells J) 37 (0, 0)) := by rw [setRow_other _ _ _ _ hne]; exact r7
          have r8 := setRow_heap _ g8 _ (ncells I) _ _ hz8
          go_wp2_with fail
          go_meet
          exact ⟨g7, g8, rfl, rfl, r7, r8, hHeld⟩
      case stc6n2 =>
        go_simp
        refine hK.out _ _ (hS.alloc hS.size _) (fun hHeld => ?_)
        clear hK K
        try simp only [Act.put, List.setIfInBounds_toArray, List.set_cons_succ, List.set_cons_zero]
        have hz7 := heap_alloc_new Wn2 (.cells Z 37)
        have hb := (Below.refl Wn2.heap.size Wn2).alloc (Nat.le_refl _) (.cells Z 37)
        have hg7 := hS.size
        clear hS hb
        have hS := hHeld
        clear hHeld
        generalize Wn2.alloc (.cells Z 37) = Wn26 at *
        generalize Wn2.heap.size = g7 at *
        refine wpAnyH_ready (rs := [5, 7]) (by kernel_rfl) (by simp) ?_
        refine' (AllReadyH.cons ?hoc5n26 (fun K hK => ?stc5n26) (AllReadyH.cons ?hoc7n26 (fun K hK => ?stc7n26) AllReadyH.nil))
        case hoc5n26 => (simp only [List.getElem?_toArray, List.getElem?_cons_succ, List.getElem?_cons_zero]; rfl)
        case hoc7n26 => (simp only [List.getElem?_toArray, List.getElem?_cons_succ, List.getElem?_cons_zero]; rfl)
        case stc5n26 =>
          go_simp
          refine (D1.out _ _ (C2.out.below hS)).mono ?_
          rintro e Wn265 ⟨rfl, hb⟩
          have hz7 := (hb.block _ (blk_lt hz7)).trans hz7
          go_wp2_with fail
          refine hK.out _ _ (hS.trans (hb.mono hS.size)) (fun hHeld => ?_)
          clear hK K
          try simp only [Act.put, List.setIfInBounds_toArray, List.set_cons_succ, List.set_cons_zero]
          clear hS hb
          have hS := hHeld
          clear hHeld
          refine wpAnyH_ready (rs := [7]) (by kernel_rfl) (by simp) ?_
          refine' AllReadyH.cons ?hoc7n265 (fun K hK => ?stc7n265) AllReadyH.nil
          case hoc7n265 => (simp only [List.getElem?_toArray, List.getElem?_cons_succ, List.getElem?_cons_zero]; rfl)
          go_simp
          refine hK.out _ _ (hS.alloc hS.size _) (fun hHeld => ?_)
          clear hK K
          try simp only [Act.put, List.setIfInBounds_toArray, List.set_cons_succ, List.set_cons_zero]
          have hz8 := heap_alloc_new Wn265 (.cells Z 37)
          have hb := (Below.refl Wn265.heap.size Wn265).alloc (Nat.le_refl _) (.cells Z 37)
          have hg8 := hS.size
          have hne : g7 ≠ Wn265.heap.size := by have := blk_lt hz7; omega
          have hz7 := (hb.block _ (blk_lt hz7)).trans hz7
          clear hS hb
          have hS := hHeld
          clear hHeld
          generalize Wn265.alloc (.cells Z 37) = Wn2657 at *
          generalize Wn265.heap.size = g8 at *
          refine wpAnyH_ready (rs := [8]) (by kernel_rfl) (by simp) ?_
          refine' AllReadyH.cons ?hoc8n2657 (fun K hK => ?stc8n2657) AllReadyH.nil
          case hoc8n2657 => (simp only [List.getElem?_toArray, List.getElem?_cons_succ, List.getElem?_cons_zero]; rfl)
          refine step_store_row rfl 37 (.tmp 7) (.tmp 19) rfl g7 (ncells J) rfl rfl 37 _ hz7 (i47 EB.out.1) (ZL.out _ EB.out.1) (none_ _) ?_
          refine hK.out _ _ (hS.trans (below_row _ _ hg7)) (fun hHeld => ?_)
          clear hK K
          simp only [Act.put]
          have r7 := setRow_heap _ g7 _ (ncells J) _ _ hz7
          have hz8 : (Wn2657.setRow g7 (ncells J)).heap[g8]? = some (.cells Z 37 (0, 0)) := by rw [setRow_other _ _ _ _ (Ne.symm hne)]; exact hz8
          clear hS
          have hS := hHeld
          clear hHeld
          refine wpAnyH_ready (rs := [9]) (by kernel_rfl) (by simp) ?_
          refine' AllReadyH.cons ?hoc9n2657 (fun K hK => ?stc9n2657) AllReadyH.nil
          case hoc9n2657 => (simp only [List.getElem?_toArray, List.getElem?_cons_succ, List.getElem?_cons_zero]; rfl)
          refine step_store_row rfl 37 (.tmp 8) (.tmp 22) rfl g8 (ncells I) rfl rfl 37 _ hz8 (i47 DB.out.1) (ZL.out _ DB.out.1) (none_ _) ?_
          refine hK.out _ _ (hS.trans (below_row _ _ hg8)) (fun hHeld => ?_)
          clear hK K
          simp only [Act.put]
          refine wpAnyH_done (by kernel_rfl) ?_ _
          have r7 : ((Wn2657.setRow g7 (ncells J)).setRow g8 (ncells I)).heap[g7]? = some (.cells (ncells J) 37 (0, 0)) := by rw [setRow_other _ _ _ _ hne]; exact r7
          have r8 := setRow_heap _ g8 _ (ncells I) _ _ hz8
          go_wp2_with fail
          go_meet
          exact ⟨g7, g8, rfl, rfl, r7, r8, hHeld⟩
        case stc7n26 =>
          go_simp
          refine hK.out _ _ (hS.alloc hS.size _) (fun hHeld => ?_)
          clear hK K
          try simp only [Act.put, List.setIfInBounds_toArray, List.set_cons_succ, List.set_cons_zero]
          have hz8 := heap_alloc_new Wn26 (.cells Z 37)
          have hb := (Below.refl Wn26.heap.size Wn26).alloc (Nat.le_refl _) (.cells Z 37)
          have hg8 := hS.size
          have hne : g7 ≠ Wn26.heap.size := by have := blk_lt hz7; omega
          have hz7 := (hb.block _ (blk_lt hz7)).trans hz7
          clear hS hb
          have hS := hHeld
          clear hHeld
          generalize Wn26.alloc (.cells Z 37) = Wn267 at *
          generalize Wn26.heap.size = g8 at *
          refine wpAnyH_ready (rs := [5]) (by kernel_rfl) (by simp) ?_
          refine' AllReadyH.cons ?hoc5n267 (fun K hK => ?stc5n267) AllReadyH.nil
          case hoc5n267 => (simp only [List.getElem?_toArray, List.getElem?_cons_succ, List.getElem?_cons_zero]; rfl)
          go_simp
          refine (D1.out _ _ (C2.out.below hS)).mono ?_
          rintro e Wn2675 ⟨rfl, hb⟩
          have hz7 := (hb.block _ (blk_lt hz7)).trans hz7
          have hz8 := (hb.block _ (blk_lt hz8)).trans hz8
          go_wp2_with fail
          refine hK.out _ _ (hS.trans (hb.mono hS.size)) (fun hHeld => ?_)
          clear hK K
          try simp only [Act.put, List.setIfInBounds_toArray, List.set_cons_succ, List.set_cons_zero]
          clear hS hb
          have hS := hHeld
          clear hHeld
          refine wpAnyH_ready (rs := [8]) (by kernel_rfl) (by simp) ?_
          refine' AllReadyH.cons ?hoc8n2675 (fun K hK => ?stc8n2675) AllReadyH.nil
          case hoc8n2675 => (simp only [List.getElem?_toArray, List.getElem?_cons_succ, List.getElem?_cons_zero]; rfl)
          refine step_store_row rfl 37 (.tmp 7) (.tmp 19) rfl g7 (ncells J) rfl rfl 37 _ hz7 (i47 EB.out.1) (ZL.out _ EB.out.1) (none_ _) ?_
          refine hK.out _ _ (hS.trans (below_row _ _ hg7)) (fun hHeld => ?_)
          clear hK K
          simp only [Act.put]
          have r7 := setRow_heap _ g7 _ (ncells J) _ _ hz7
          have hz8 : (Wn2675.setRow g7 (ncells J)).heap[g8]? = some (.cells Z 37 (0, 0)) := by rw [setRow_other _ _ _ _ (Ne.symm hne)]; exact hz8
          clear hS
          have hS := hHeld
          clear hHeld
          refine wpAnyH_ready (rs := [9]) (by kernel_rfl) (by simp) ?_
          refine' AllReadyH.cons ?hoc9n2675 (fun K hK => ?stc9n2675) AllReadyH.nil
          case hoc9n2675 => (simp only [List.getElem?_toArray, List.getElem?_cons_succ, List.getElem?_cons_zero]; rfl)
          refine step_store_row rfl 37 (.tmp 8) (.tmp 22) rfl g8 (ncells I) rfl rfl 37 _ hz8 (i47 DB.out.1) (ZL.out _ DB.out.1) (none_ _) ?_
          refine hK.out _ _ (hS.trans (below_row _ _ hg8)) (fun hHeld => ?_)
          clear hK K
          simp only [Act.put]
          refine wpAnyH_done (by kernel_rfl) ?_ _
          have r7 : ((Wn2675.setRow g7 (ncells J)).setRow g8 (ncells I)).heap[g7]? = some (.cells (ncells J) 37 (0, 0)) := by rw [setRow_other _ _ _ _ hne]; exact r7
          have r8 := setRow_heap _ g8 _ (ncells I) _ _ hz8
          go_wp2_with fail
          go_meet
          exact ⟨g7, g8, rfl, rfl, r7, r8, hHeld⟩
      case stc7n2 =>
        go_simp
        refine hK.out _ _ (hS.alloc hS.size _) (fun hHeld => ?_)
        clear hK K
        try simp only [Act.put, List.setIfInBounds_toArray, List.set_cons_succ, List.set_cons_zero]
        have hz8 := heap_alloc_new Wn2 (.cells Z 37)
        have hb := (Below.refl Wn2.heap.size Wn2).alloc (Nat.le_refl _) (.cells Z 37)
        have hg8 := hS.size
        clear hS hb
        have hS := hHeld
        clear hHeld
        generalize Wn2.alloc (.cells Z 37) = Wn27 at *
        generalize Wn2.heap.size = g8 at *
        refine wpAnyH_ready (rs := [5, 6]) (by kernel_rfl) (by simp) ?_
        refine' (AllReadyH.cons ?hoc5n27 (fun K hK => ?stc5n27) (AllReadyH.cons ?hoc6n27 (fun K hK => ?stc6n27) AllReadyH.nil))
        case hoc5n27 => (simp only [List.getElem?_toArray, List.getElem?_cons_succ, List.getElem?_cons_zero]; rfl)
        case hoc6n27 => (simp only [List.getElem?_toArray, List.getElem?_cons_succ, List.getElem?_cons_zero]; rfl)
        case stc5n27 =>
          go_simp
          refine (D1.out _ _ (C2.out.below hS)).mono ?_
          rintro e Wn275 ⟨rfl, hb⟩
          have hz8 := (hb.block _ (blk_lt hz8)).trans hz8
          go_wp2_with fail
          refine hK.out _ _ (hS.trans (hb.mono hS.size)) (fun hHeld => ?_)
          clear hK K
          try simp only [Act.put, List.setIfInBounds_toArray, List.set_cons_succ, List.set_cons_zero]
          clear hS hb
          have hS := hHeld
          clear hHeld
          refine wpAnyH_ready (rs := [6]) (by kernel_rfl) (by simp) ?_
          refine' AllReadyH.cons ?hoc6n275 (fun K hK => ?stc6n275) AllReadyH.nil
          case hoc6n275 => (simp only [List.getElem?_toArray, List.getElem?_cons_succ, List.getElem?_cons_zero]; rfl)
          go_simp
          refine hK.out _ _ (hS.alloc hS.size _) (fun hHeld => ?_)
          clear hK K
          try simp only [Act.put, List.setIfInBounds_toArray, List.set_cons_succ, List.set_cons_zero]
          have hz7 := heap_alloc_new Wn275 (.cells Z 37)
          have hb := (Below.refl Wn275.heap.size Wn275).alloc (Nat.le_refl _) (.cells Z 37)
          have hg7 := hS.size
          have hne : Wn275.heap.size ≠ g8 := by have := blk_lt hz8; omega
          have hz8 := (hb.block _ (blk_lt hz8)).trans hz8
          clear hS hb
          have hS := hHeld
          clear hHeld
          generalize Wn275.alloc (.cells Z 37) = Wn2756 at *
          generalize Wn275.heap.size = g7 at *
          refine wpAnyH_ready (rs := [8]) (by kernel_rfl) (by simp) ?_
          refine' AllReadyH.cons ?hoc8n2756 (fun K hK => ?stc8n2756) AllReadyH.nil
          case hoc8n2756 => (simp only [List.getElem?_toArray, List.getElem?_cons_succ, List.getElem?_cons_zero]; rfl)
          refine step_store_row rfl 37 (.tmp 7) (.tmp 19) rfl g7 (ncells J) rfl rfl 37 _ hz7 (i47 EB.out.1) (ZL.out _ EB.out.1) (none_ _) ?_
          refine hK.out _ _ (hS.trans (below_row _ _ hg7)) (fun hHeld => ?_)
          clear hK K
          simp only [Act.put]
          have r7 := setRow_heap _ g7 _ (ncells J) _ _ hz7
          have hz8 : (Wn2756.setRow g7 (ncells J)).heap[g8]? = some (.cells Z 37 (0, 0)) := by rw [setRow_other _ _ _ _ (Ne.symm hne)]; exact hz8
          clear hS
          have hS := hHeld
          clear hHeld
          refine wpAnyH_ready (rs := [9]) (by kernel_rfl) (by simp) ?_
          refine' AllReadyH.cons ?hoc9n2756 (fun K hK => ?stc9n2756) AllReadyH.nil
          case hoc9n2756 => (simp only [List.getElem?_toArray, List.getElem?_cons_succ, List.getElem?_cons_zero]; rfl)
          refine step_store_row rfl 37 (.tmp 8) (.tmp 22) rfl g8 (ncells I) rfl rfl 37 _ hz8 (i47 DB.out.1) (ZL.out _ DB.out.1) (none_ _) ?_
          refine hK.out _ _ (hS.trans (below_row _ _ hg8)) (fun hHeld => ?_)
          clear hK K
          simp only [Act.put]
          refine wpAnyH_done (by kernel_rfl) ?_ _
          have r7 : ((Wn2756.setRow g7 (ncells J)).setRow g8 (ncells I)).heap[g7]? = some (.cells (ncells J) 37 (0, 0)) := by rw [setRow_other _ _ _ _ hne]; exact r7
          have r8 := setRow_heap _ g8 _ (ncells I) _ _ hz8
          go_wp2_with fail
          go_meet
          exact ⟨g7, g8, rfl, rfl, r7, r8, hHeld⟩
        case stc6n27 =>
          go_simp
          refine hK.out _ _ (hS.alloc hS.size _) (fun hHeld => ?_)
          clear hK K
          try simp only [Act.put, List.setIfInBounds_toArray, List.set_cons_succ, List.set_cons_zero]
          have hz7 := heap_alloc_new Wn27 (.cells Z 37)
          have hb := (Below.refl Wn27.heap.size Wn27).alloc (Nat.le_refl _) (.cells Z 37)
          have hg7 := hS.size
          have hne : Wn27.heap.size ≠ g8 := by have := blk_lt hz8; omega
          have hz8 := (hb.block _ (blk_lt hz8)).trans hz8
          clear hS hb
          have hS := hHeld
          clear hHeld
          generalize Wn27.alloc (.cells Z 37) = Wn276 at *
          generalize Wn27.heap.size = g7 at *
          refine wpAnyH_ready (rs := [5]) (by kernel_rfl) (by simp) ?_
          refine' AllReadyH.cons ?hoc5n276 (fun K hK => ?stc5n276) AllReadyH.nil
          case hoc5n276 => (simp only [List.getElem?_toArray, List.getElem?_cons_succ, List.getElem?_cons_zero]; rfl)
          go_simp
          refine (D1.out _ _ (C2.out.below hS)).mono ?_
          rintro e Wn2765 ⟨rfl, hb⟩
          have hz8 := (hb.block _ (blk_lt hz8)).trans hz8
          have hz7 := (hb.block _ (blk_lt hz7)).trans hz7
          go_wp2_with fail
          refine hK.out _ _ (hS.trans (hb.mono hS.size)) (fun hHeld => ?_)
          clear hK K
          try simp only [Act.put, List.setIfInBounds_toArray, List.set_cons_succ, List.set_cons_zero]
          clear hS hb
          have hS := hHeld
          clear hHeld
          refine wpAnyH_ready (rs := [8]) (by kernel_rfl) (by simp) ?_
          refine' AllReadyH.cons ?hoc8n2765 (fun K hK => ?stc8n2765) AllReadyH.nil
          case hoc8n2765 => (simp only [List.getElem?_toArray, List.getElem?_cons_succ, List.getElem?_cons_zero]; rfl)
          refine step_store_row rfl 37 (.tmp 7) (.tmp 19) rfl g7 (ncells J) rfl rfl 37 _ hz7 (i47 EB.out.1) (ZL.out _ EB.out.1) (none_ _) ?_
          refine hK.out _ _ (hS.trans (below_row _ _ hg7)) (fun hHeld => ?_)
          clear hK K
          simp only [Act.put]
          have r7 := setRow_heap _ g7 _ (ncells J) _ _ hz7
          have hz8 : (Wn2765.setRow g7 (ncells J)).heap[g8]? = some (.cells Z 37 (0, 0)) := by rw [setRow_other _ _ _ _ (Ne.symm hne)]; exact hz8
          clear hS
          have hS := hHeld
          clear hHeld
          refine wpAnyH_ready (rs := [9]) (by kernel_rfl) (by simp) ?_
          refine' AllReadyH.cons ?hoc9n2765 (fun K hK => ?stc9n2765) AllReadyH.nil
          case hoc9n2765 => (simp only [List.getElem?_toArray, List.getElem?_cons_succ, List.getElem?_cons_zero]; rfl)
          refine step_store_row rfl 37 (.tmp 8) (.tmp 22) rfl g8 (ncells I) rfl rfl 37 _ hz8 (i47 DB.out.1) (ZL.out _ DB.out.1) (none_ _) ?_
          refine hK.out _ _ (hS.trans (below_row _ _ hg8)) (fun hHeld => ?_)
          clear hK K
          simp only [Act.put]
          refine wpAnyH_done (by kernel_rfl) ?_ _
          have r7 : ((Wn2765.setRow g7 (ncells J)).setRow g8 (ncells I)).heap[g7]? = some (.cells (ncells J) 37 (0, 0)) := by rw [setRow_other _ _ _ _ hne]; exact r7
          have r8 := setRow_heap _ g8 _ (ncells I) _ _ hz8
          go_wp2_with fail
          go_meet
          exact ⟨g7, g8, rfl, rfl, r7, r8, hHeld⟩
    case stc6n =>
      go_simp
      refine hK.out _ _ (hS.alloc hS.size _) (fun hHeld => ?_)
      clear hK K
      try simp only [Act.put, List.setIfInBounds_toArray, List.set_cons_succ, List.set_cons_zero]
      have hz7 := heap_alloc_new Wd (.cells Z 37)
      have hb := (Below.refl Wd.heap.size Wd).alloc (Nat.le_refl _) (.cells Z 37)
      have hg7 := hS.size
      clear hS hb
      have hS := hHeld
      clear hHeld
      generalize Wd.alloc (.cells Z 37) = Wn6 at *
      generalize Wd.heap.size = g7 at *
      refine wpAnyH_ready (rs := [2, 7]) (by kernel_rfl) (by simp) ?_
      refine' (AllReadyH.cons ?hoc2n6 (fun K hK => ?stc2n6) (AllReadyH.cons ?hoc7n6 (fun K hK => ?stc7n6) AllReadyH.nil))
      case hoc2n6 => (simp only [List.getElem?_toArray, List.getElem?_cons_succ, List.getElem?_cons_zero]; rfl)
      case hoc7n6 => (simp only [List.getElem?_toArray, List.getElem?_cons_succ, List.getElem?_cons_zero]; rfl)
      case stc2n6 =>
        go_simp
        refine (E1.out _ _ (C2.out.below hS)).mono ?_
        rintro e Wn62 ⟨rfl, hb⟩
        have hz7 := (hb.block _ (blk_lt hz7)).trans hz7
        go_wp2_with fail
        refine hK.out _ _ (hS.trans (hb.mono hS.size)) (fun hHeld => ?_)
        clear hK K
        try simp only [Act.put, List.setIfInBounds_toArray, List.set_cons_succ, List.set_cons_zero]
        clear hS hb
        have hS := hHeld
        clear hHeld
        refine wpAnyH_ready (rs := [5, 7]) (by kernel_rfl) (by simp) ?_
        refine' (AllReadyH.cons ?hoc5n62 (fun K hK => ?stc5n62) (AllReadyH.cons ?hoc7n62 (fun K hK => ?stc7n62) AllReadyH.nil))
        case hoc5n62 => (simp only [List.getElem?_toArray, List.getElem?_cons_succ, List.getElem?_cons_zero]; rfl)
        case hoc7n62 => (simp only [List.getElem?_toArray, List.getElem?_cons_succ, List.getElem?_cons_zero]; rfl)
        case stc5n62 =>
          go_simp
          refine (D1.out _ _ (C2.out.below hS)).mono ?_
          rintro e Wn625 ⟨rfl, hb⟩
          have hz7 := (hb.block _ (blk_lt hz7)).trans hz7
          go_wp2_with fail
          refine hK.out _ _ (hS.trans (hb.mono hS.size)) (fun hHeld => ?_)
          clear hK K
          try simp only [Act.put, List.setIfInBounds_toArray, List.set_cons_succ, List.set_cons_zero]
          clear hS hb
          have hS := hHeld
          clear hHeld
          refine wpAnyH_ready (rs := [7]) (by kernel_rfl) (by simp) ?_
          refine' AllReadyH.cons ?hoc7n625 (fun K hK => ?stc7n625) AllReadyH.nil
          case hoc7n625 => (simp only [List.getElem?_toArray, List.getElem?_cons_succ, List.getElem?_cons_zero]; rfl)
          go_simp
          refine hK.out _ _ (hS.alloc hS.size _) (fun hHeld => ?_)
          clear hK K
          try simp only [Act.put, List.setIfInBounds_toArray, List.set_cons_succ, List.set_cons_zero]
          have hz8 := heap_alloc_new Wn625 (.cells Z 37)
          have hb := (Below.refl Wn625.heap.size Wn625).alloc (Nat.le_refl _) (.cells Z 37)
          have hg8 := hS.size
          have hne : g7 ≠ Wn625.heap.size := by have := blk_lt hz7; omega
          have hz7 := (hb.block _ (blk_lt hz7)).trans hz7
          clear hS hb
          have hS := hHeld
          clear hHeld
          generalize Wn625.alloc (.cells Z 37) = Wn6257 at *
          generalize Wn625.heap.size = g8 at *
          refine wpAnyH_ready (rs := [8]) (by kernel_rfl) (by simp) ?_
          refine' AllReadyH.cons ?hoc8n6257 (fun K hK => ?stc8n6257) AllReadyH.nil
          case hoc8n6257 => (simp only [List.getElem?_toArray, List.getElem?_cons_succ, List.getElem?_cons_zero]; rfl)
          refine step_store_row rfl 37 (.tmp 7) (.tmp 19) rfl g7 (ncells J) rfl rfl 37 _ hz7 (i47 EB.out.1) (ZL.out _ EB.out.1) (none_ _) ?_
          refine hK.out _ _ (hS.trans (below_row _ _ hg7)) (fun hHeld => ?_)
          clear hK K
          simp only [Act.put]
          have r7 := setRow_heap _ g7 _ (ncells J) _ _ hz7
          have hz8 : (Wn6257.setRow g7 (ncells J)).heap[g8]? = some (.cells Z 37 (0, 0)) := by rw [setRow_other _ _ _ _ (Ne.symm hne)]; exact hz8
          clear hS
          have hS := hHeld
          clear hHeld
          refine wpAnyH_ready (rs := [9]) (by kernel_rfl) (by simp) ?_
          refine' AllReadyH.cons ?hoc9n6257 (fun K hK => ?stc9n6257) AllReadyH.nil
          case hoc9n6257 => (simp only [List.getElem?_toArray, List.getElem?_cons_succ, List.getElem?_cons_zero]; rfl)
          refine step_store_row rfl 37 (.tmp 8) (.tmp 22) rfl g8 (ncells I) rfl rfl 37 _ hz8 (i47 DB.out.1) (ZL.out _ DB.out.1) (none_ _) ?_
          refine hK.out _ _ (hS.trans (below_row _ _ hg8)) (fun hHeld => ?_)
          clear hK K
          simp only [Act.put]
          refine wpAnyH_done (by kernel_rfl) ?_ _
          have r7 : ((Wn6257.setRow g7 (ncells J)).setRow g8 (ncells I)).heap[g7]? = some (.cells (ncells J) 37 (0, 0)) := by rw [setRow_other _ _ _ _ hne]; exact r7
          have r8 := setRow_heap _ g8 _ (ncells I) _ _ hz8
          go_wp2_with fail
          go_meet
          exact ⟨g7, g8, rfl, rfl, r7, r8, hHeld⟩
        case stc7n62 =>
          go_simp
          refine hK.out _ _ (hS.alloc hS.size _) (fun hHeld => ?_)
          clear hK K
          try simp only [Act.put, List.setIfInBounds_toArray, List.set_cons_succ, List.set_cons_zero]
          have hz8 := heap_alloc_new Wn62 (.cells Z 37)
          have hb := (Below.refl Wn62.heap.size Wn62).alloc (Nat.le_refl _) (.cells Z 37)
          have hg8 := hS.size
          have hne : g7 ≠ Wn62.heap.size := by have := blk_lt hz7; omega
          have hz7 := (hb.block _ (blk_lt hz7)).trans hz7
          clear hS hb
          have hS := hHeld
          clear hHeld
          generalize Wn62.alloc (.cells Z 37) = Wn627 at *
          generalize Wn62.heap.size = g8 at *
          refine wpAnyH_ready (rs := [5]) (by kernel_rfl) (by simp) ?_
          refine' AllReadyH.cons ?hoc5n627 (fun K hK => ?stc5n627) AllReadyH.nil
          case hoc5n627 => (simp only [List.getElem?_toArray, List.getElem?_cons_succ, List.getElem?_cons_zero]; rfl)
          go_simp
          refine (D1.out _ _ (C2.out.below hS)).mono ?_
          rintro e Wn6275 ⟨rfl, hb⟩
          have hz7 := (hb.block _ (blk_lt hz7)).trans hz7
          have hz8 := (hb.block _ (blk_lt hz8)).trans hz8
          go_wp2_with fail
          refine hK.out _ _ (hS.trans (hb.mono hS.size)) (fun hHeld => ?_)
          clear hK K
          try simp only [Act.put, List.setIfInBounds_toArray, List.set_cons_succ, List.set_cons_zero]
          clear hS hb
          have hS := hHeld
          clear hHeld
          refine wpAnyH_ready (rs := [8]) (by kernel_rfl) (by simp) ?_
          refine' AllReadyH.cons ?hoc8n6275 (fun K hK => ?stc8n6275) AllReadyH.nil
          case hoc8n6275 => (simp only [List.getElem?_toArray, List.getElem?_cons_succ, List.getElem?_cons_zero]; rfl)
          refine step_store_row rfl 37 (.tmp 7) (.tmp 19) rfl g7 (ncells J) rfl rfl 37 _ hz7 (i47 EB.out.1) (ZL.out _ EB.out.1) (none_ _) ?_
          refine hK.out _ _ (hS.trans (below_row _ _ hg7)) (fun hHeld => ?_)
          clear hK K
          simp only [Act.put]
          have r7 := setRow_heap _ g7 _ (ncells J) _ _ hz7
          have hz8 : (Wn6275.setRow g7 (ncells J)).heap[g8]? = some (.cells Z 37 (0, 0)) := by rw [setRow_other _ _ _ _ (Ne.symm hne)]; exact hz8
          clear hS
          have hS := hHeld
          clear hHeld
          refine wpAnyH_ready (rs := [9]) (by kernel_rfl) (by simp) ?_
          refine' AllReadyH.cons ?hoc9n6275 (fun K hK => ?stc9n6275) AllReadyH.nil
          case hoc9n6275 => (simp only [List.getElem?_toArray, List.getElem?_cons_succ, List.getElem?_cons_zero]; rfl)
          refine step_store_row rfl 37 (.tmp 8) (.tmp 22) rfl g8 (ncells I) rfl rfl 37 _ hz8 (i47 DB.out.1) (ZL.out _ DB.out.1) (none_ _) ?_
          refine hK.out _ _ (hS.trans (below_row _ _ hg8)) (fun hHeld => ?_)
          clear hK K
          simp only [Act.put]
          refine wpAnyH_done (by kernel_rfl) ?_ _
          have r7 : ((Wn6275.setRow g7 (ncells J)).setRow g8 (ncells I)).heap[g7]? = some (.cells (ncells J) 37 (0, 0)) := by rw [setRow_other _ _ _ _ hne]; exact r7
          have r8 := setRow_heap _ g8 _ (ncells I) _ _ hz8
          go_wp2_with fail
          go_meet
          exact ⟨g7, g8, rfl, rfl, r7, r8, hHeld⟩
      case stc7n6 =>
        go_simp
        refine hK.out _ _ (hS.alloc hS.size _) (fun hHeld => ?_)
        clear hK K
        try simp only [Act.put, List.setIfInBounds_toArray, List.set_cons_succ, List.set_cons_zero]
        have hz8 := heap_alloc_new Wn6 (.cells Z 37)
        have hb := (Below.refl Wn6.heap.size Wn6).alloc (Nat.le_refl _) (.cells Z 37)
        have hg8 := hS.size
        have hne : g7 ≠ Wn6.heap.size := by have := blk_lt hz7; omega
        have hz7 := (hb.block _ (blk_lt hz7)).trans hz7
        clear hS hb
        have hS := hHeld
        clear hHeld
        generalize Wn6.alloc (.cells Z 37) = Wn67 at *
        generalize Wn6.heap.size = g8 at *
        refine wpAnyH_ready (rs := [2]) (by kernel_rfl) (by simp) ?_
        refine' AllReadyH.cons ?hoc2n67 (fun K hK => ?stc2n67) AllReadyH.nil
        case hoc2n67 => (simp only [List.getElem?_toArray, List.getElem?_cons_succ, List.getElem?_cons_zero]; rfl)
        go_simp
        refine (E1.out _ _ (C2.out.below hS)).mono ?_
        rintro e Wn672 ⟨rfl, hb⟩
        have hz7 := (hb.block _ (blk_lt hz7)).trans hz7
        have hz8 := (hb.block _ (blk_lt hz8)).trans hz8
        go_wp2_with fail
        refine hK.out _ _ (hS.trans (hb.mono hS.size)) (fun hHeld => ?_)
        clear hK K
        try simp only [Act.put, List.setIfInBounds_toArray, List.set_cons_succ, List.set_cons_zero]
        clear hS hb
        have hS := hHeld
        clear hHeld
        refine wpAnyH_ready (rs := [5]) (by kernel_rfl) (by simp) ?_
        refine' AllReadyH.cons ?hoc5n672 (fun K hK => ?stc5n672) AllReadyH.nil
        case hoc5n672 => (simp only [List.getElem?_toArray, List.getElem?_cons_succ, List.getElem?_cons_zero]; rfl)
        go_simp
        refine (D1.out _ _ (C2.out.below hS)).mono ?_
        rintro e Wn6725 ⟨rfl, hb⟩
        have hz7 := (hb.block _ (blk_lt hz7)).trans hz7
        have hz8 := (hb.block _ (blk_lt hz8)).trans hz8
        go_wp2_with fail
        refine hK.out _ _ (hS.trans (hb.mono hS.size)) (fun hHeld => ?_)
        clear hK K
        try simp only [Act.put, List.setIfInBounds_toArray, List.set_cons_succ, List.set_cons_zero]
        clear hS hb
        have hS := hHeld
        clear hHeld
        refine wpAnyH_ready (rs := [8]) (by kernel_rfl) (by simp) ?_
        refine' AllReadyH.cons ?hoc8n6725 (fun K hK => ?stc8n6725) AllReadyH.nil
        case hoc8n6725 => (simp only [List.getElem?_toArray, List.getElem?_cons_succ, List.getElem?_cons_zero]; rfl)
        refine step_store_row rfl 37 (.tmp 7) (.tmp 19) rfl g7 (ncells J) rfl rfl 37 _ hz7 (i47 EB.out.1) (ZL.out _ EB.out.1) (none_ _) ?_
        refine hK.out _ _ (hS.trans (below_row _ _ hg7)) (fun hHeld => ?_)
        clear hK K
        simp only [Act.put]
        have r7 := setRow_heap _ g7 _ (ncells J) _ _ hz7
        have hz8 : (Wn6725.setRow g7 (ncells J)).heap[g8]? = some (.cells Z 37 (0, 0)) := by rw [setRow_other _ _ _ _ (Ne.symm hne)]; exact hz8
        clear hS
        have hS := hHeld
        clear hHeld
        refine wpAnyH_ready (rs := [9]) (by kernel_rfl) (by simp) ?_
        refine' AllReadyH.cons ?hoc9n6725 (fun K hK => ?stc9n6725) AllReadyH.nil
        case hoc9n6725 => (simp only [List.getElem?_toArray, List.getElem?_cons_succ, List.getElem?_cons_zero]; rfl)
        refine step_store_row rfl 37 (.tmp 8) (.tmp 22) rfl g8 (ncells I) rfl rfl 37 _ hz8 (i47 DB.out.1) (ZL.out _ DB.out.1) (none_ _) ?_
        refine hK.out _ _ (hS.trans (below_row _ _ hg8)) (fun hHeld => ?_)
        clear hK K
        simp only [Act.put]
        refine wpAnyH_done (by kernel_rfl) ?_ _
        have r7 : ((Wn6725.setRow g7 (ncells J)).setRow g8 (ncells I)).heap[g7]? = some (.cells (ncells J) 37 (0, 0)) := by rw [setRow_other _ _ _ _ hne]; exact r7
        have r8 := setRow_heap _ g8 _ (ncells I) _ _ hz8
        go_wp2_with fail
        go_meet
        exact ⟨g7, g8, rfl, rfl, r7, r8, hHeld⟩
    case stc7n =>
      go_simp
      refine hK.out _ _ (hS.alloc hS.size _) (fun hHeld => ?_)
      clear hK K
      try simp only [Act.put, List.setIfInBounds_toArray, List.set_cons_succ, List.set_cons_zero]
      have hz8 := heap_alloc_new Wd (.cells Z 37)
      have hb := (Below.refl Wd.heap.size Wd).alloc (Nat.le_refl _) (.cells Z 37)
      have hg8 := hS.size
      clear hS hb
      have hS := hHeld
      clear hHeld
      generalize Wd.alloc (.cells Z 37) = Wn7 at *
      generalize Wd.heap.size = g8 at *
      refine wpAnyH_ready (rs := [2, 6]) (by kernel_rfl) (by simp) ?_
      refine' (AllReadyH.cons ?hoc2n7 (fun K hK => ?stc2n7) (AllReadyH.cons ?hoc6n7 (fun K hK => ?stc6n7) AllReadyH.nil))
      case hoc2n7 => (simp only [List.getElem?_toArray, List.getElem?_cons_succ, List.getElem?_cons_zero]; rfl)
      case hoc6n7 => (simp only [List.getElem?_toArray, List.getElem?_cons_succ, List.getElem?_cons_zero]; rfl)
      case stc2n7 =>
        go_simp
        refine (E1.out _ _ (C2.out.below hS)).mono ?_
        rintro e Wn72 ⟨rfl, hb⟩
        have hz8 := (hb.block _ (blk_lt hz8)).trans hz8
        go_wp2_with fail
        refine hK.out _ _ (hS.trans (hb.mono hS.size)) (fun hHeld => ?_)
        clear hK K
        try simp only [Act.put, List.setIfInBounds_toArray, List.set_cons_succ, List.set_cons_zero]
        clear hS hb
        have hS := hHeld
        clear hHeld
        refine wpAnyH_ready (rs := [5, 6]) (by kernel_rfl) (by simp) ?_
        refine' (AllReadyH.cons ?hoc5n72 (fun K hK => ?stc5n72) (AllReadyH.cons ?hoc6n72 (fun K hK => ?stc6n72) AllReadyH.nil))
        case hoc5n72 => (simp only [List.getElem?_toArray, List.getElem?_cons_succ, List.getElem?_cons_zero]; rfl)
        case hoc6n72 => (simp only [List.getElem?_toArray, List.getElem?_cons_succ, List.getElem?_cons_zero]; rfl)
        case stc5n72 =>
          go_simp
          refine (D1.out _ _ (C2.out.below hS)).mono ?_
          rintro e Wn725 ⟨rfl, hb⟩
          have hz8 := (hb.block _ (blk_lt hz8)).trans hz8
          go_wp2_with fail
          refine hK.out _ _ (hS.trans (hb.mono hS.size)) (fun hHeld => ?_)
          clear hK K
          try simp only [Act.put, List.setIfInBounds_toArray, List.set_cons_succ, List.set_cons_zero]
          clear hS hb
          have hS := hHeld
          clear hHeld
          refine wpAnyH_ready (rs := [6]) (by kernel_rfl) (by simp) ?_
          refine' AllReadyH.cons ?hoc6n725 (fun K hK => ?stc6n725) AllReadyH.nil
          case hoc6n725 => (simp only [List.getElem?_toArray, List.getElem?_cons_succ, List.getElem?_cons_zero]; rfl)
          go_simp
          refine hK.out _ _ (hS.alloc hS.size _) (fun hHeld => ?_)
          clear hK K
          try simp only [Act.put, List.setIfInBounds_toArray, List.set_cons_succ, List.set_cons_zero]
          have hz7 := heap_alloc_new Wn725 (.cells Z 37)
          have hb := (Below.refl Wn725.heap.size Wn725).alloc (Nat.le_refl _) (.cells Z 37)
          have hg7 := hS.size
          have hne : Wn725.heap.size ≠ g8 := by have := blk_lt hz8; omega
          have hz8 := (hb.block _ (blk_lt hz8)).trans hz8
          clear hS hb
          have hS := hHeld
          clear hHeld
          generalize Wn725.alloc (.cells Z 37) = Wn7256 at *
          generalize Wn725.heap.size = g7 at *
          refine wpAnyH_ready (rs := [8]) (by kernel_rfl) (by simp) ?_
          refine' AllReadyH.cons ?hoc8n7256 (fun K hK => ?stc8n7256) AllReadyH.nil
          case hoc8n7256 => (simp only [List.getElem?_toArray, List.getElem?_cons_succ, List.getElem?_cons_zero]; rfl)
          refine step_store_row rfl 37 (.tmp 7) (.tmp 19) rfl g7 (ncells J) rfl rfl 37 _ hz7 (i47 EB.out.1) (ZL.out _ EB.out.1) (none_ _) ?_
          refine hK.out _ _ (hS.trans (below_row _ _ hg7)) (fun hHeld => ?_)
          clear hK K
          simp only [Act.put]
          have r7 := setRow_heap _ g7 _ (ncells J) _ _ hz7
          have hz8 : (Wn7256.setRow g7 (ncells J)).heap[g8]? = some (.cells Z 37 (0, 0)) := by rw [setRow_other _ _ _ _ (Ne.symm hne)]; exact hz8
          clear hS
          have hS := hHeld
          clear hHeld
          refine wpAnyH_ready (rs := [9]) (by kernel_rfl) (by simp) ?_
          refine' AllReadyH.cons ?hoc9n7256 (fun K hK => ?stc9n7256) AllReadyH.nil
          case hoc9n7256 => (simp only [List.getElem?_toArray, List.getElem?_cons_succ, List.getElem?_cons_zero]; rfl)
          refine step_store_row rfl 37 (.tmp 8) (.tmp 22) rfl g8 (ncells I) rfl rfl 37 _ hz8 (i47 DB.out.1) (ZL.out _ DB.out.1) (none_ _) ?_
          refine hK.out _ _ (hS.trans (below_row _ _ hg8)) (fun hHeld => ?_)
          clear hK K
          simp only [Act.put]
          refine wpAnyH_done (by kernel_rfl) ?_ _
          have r7 : ((Wn7256.setRow g7 (ncells J)).setRow g8 (ncells I)).heap[g7]? = some (.cells (ncells J) 37 (0, 0)) := by rw [setRow_other _ _ _ _ hne]; exact r7
          have r8 := setRow_heap _ g8 _ (ncells I) _ _ hz8
          go_wp2_with fail
          go_meet
          exact ⟨g7, g8, rfl, rfl, r7, r8, hHeld⟩
        case stc6n72 =>
          go_simp
          refine hK.out _ _ (hS.alloc hS.size _) (fun hHeld => ?_)
          clear hK K
          try simp only [Act.put, List.setIfInBounds_toArray, List.set_cons_succ, List.set_cons_zero]
          have hz7 := heap_alloc_new Wn72 (.cells Z 37)
          have hb := (Below.refl Wn72.heap.size Wn72).alloc (Nat.le_refl _) (.cells Z 37)
          have hg7 := hS.size
          have hne : Wn72.heap.size ≠ g8 := by have := blk_lt hz8; omega
          have hz8 := (hb.block _ (blk_lt hz8)).trans hz8
          clear hS hb
          have hS := hHeld
          clear hHeld
          generalize Wn72.alloc (.cells Z 37) = Wn726 at *
          generalize Wn72.heap.size = g7 at *
          refine wpAnyH_ready (rs := [5]) (by kernel_rfl) (by simp) ?_
          refine' AllReadyH.cons ?hoc5n726 (fun K hK => ?stc5n726) AllReadyH.nil
          case hoc5n726 => (simp only [List.getElem?_toArray, List.getElem?_cons_succ, List.getElem?_cons_zero]; rfl)
          go_simp
          refine (D1.out _ _ (C2.out.below hS)).mono ?_
          rintro e Wn7265 ⟨rfl, hb⟩
          have hz8 := (hb.block _ (blk_lt hz8)).trans hz8
          have hz7 := (hb.block _ (blk_lt hz7)).trans hz7
          go_wp2_with fail
          refine hK.out _ _ (hS.trans (hb.mono hS.size)) (fun hHeld => ?_)
          clear hK K
          try simp only [Act.put, List.setIfInBounds_toArray, List.set_cons_succ, List.set_cons_zero]
          clear hS hb
          have hS := hHeld
          clear hHeld
          refine wpAnyH_ready (rs := [8]) (by kernel_rfl) (by simp) ?_
          refine' AllReadyH.cons ?hoc8n7265 (fun K hK => ?stc8n7265) AllReadyH.nil
          case hoc8n7265 => (simp only [List.getElem?_toArray, List.getElem?_cons_succ, List.getElem?_cons_zero]; rfl)
          refine step_store_row rfl 37 (.tmp 7) (.tmp 19) rfl g7 (ncells J) rfl rfl 37 _ hz7 (i47 EB.out.1) (ZL.out _ EB.out.1) (none_ _) ?_
          refine hK.out _ _ (hS.trans (below_row _ _ hg7)) (fun hHeld => ?_)
          clear hK K
          simp only [Act.put]
          have r7 := setRow_heap _ g7 _ (ncells J) _ _ hz7
          have hz8 : (Wn7265.setRow g7 (ncells J)).heap[g8]? = some (.cells Z 37 (0, 0)) := by rw [setRow_other _ _ _ _ (Ne.symm hne)]; exact hz8
          clear hS
          have hS := hHeld
          clear hHeld
          refine wpAnyH_ready (rs := [9]) (by kernel_rfl) (by simp) ?_
          refine' AllReadyH.cons ?hoc9n7265 (fun K hK => ?stc9n7265) AllReadyH.nil
          case hoc9n7265 => (simp only [List.getElem?_toArray, List.getElem?_cons_succ, List.getElem?_cons_zero]; rfl)
          refine step_store_row rfl 37 (.tmp 8) (.tmp 22) rfl g8 (ncells I) rfl rfl 37 _ hz8 (i47 DB.out.1) (ZL.out _ DB.out.1) (none_ _) ?_
          refine hK.out _ _ (hS.trans (below_row _ _ hg8)) (fun hHeld => ?_)
          clear hK K
          simp only [Act.put]
          refine wpAnyH_done (by kernel_rfl) ?_ _
          have r7 : ((Wn7265.setRow g7 (ncells J)).setRow g8 (ncells I)).heap[g7]? = some (.cells (ncells J) 37 (0, 0)) := by rw [setRow_other _ _ _ _ hne]; exact r7
          have r8 := setRow_heap _ g8 _ (ncells I) _ _ hz8
          go_wp2_with fail
          go_meet
          exact ⟨g7, g8, rfl, rfl, r7, r8, hHeld⟩
      case stc6n7 =>
        go_simp
        refine hK.out _ _ (hS.alloc hS.size _) (fun hHeld => ?_)
        clear hK K
        try simp only [Act.put, List.setIfInBounds_toArray, List.set_cons_succ, List.set_cons_zero]
        have hz7 := heap_alloc_new Wn7 (.cells Z 37)
        have hb := (Below.refl Wn7.heap.size Wn7).alloc (Nat.le_refl _) (.cells Z 37)
        have hg7 := hS.size
        have hne : Wn7.heap.size ≠ g8 := by have := blk_lt hz8; omega
        have hz8 := (hb.block _ (blk_lt hz8)).trans hz8
        clear hS hb
        have hS := hHeld
        clear hHeld
        generalize Wn7.alloc (.cells Z 37) = Wn76 at *
        generalize Wn7.heap.size = g7 at *
        refine wpAnyH_ready (rs := [2]) (by kernel_rfl) (by simp) ?_
        refine' AllReadyH.cons ?hoc2n76 (fun K hK => ?stc2n76) AllReadyH.nil
        case hoc2n76 => (simp only [List.getElem?_toArray, List.getElem?_cons_succ, List.getElem?_cons_zero]; rfl)
        go_simp
        refine (E1.out _ _ (C2.out.below hS)).mono ?_
        rintro e Wn762 ⟨rfl, hb⟩
        have hz8 := (hb.block _ (blk_lt hz8)).trans hz8
        have hz7 := (hb.block _ (blk_lt hz7)).trans hz7
        go_wp2_with fail
        refine hK.out _ _ (hS.trans (hb.mono hS.size)) (fun hHeld => ?_)
        clear hK K
        try simp only [Act.put, List.setIfInBounds_toArray, List.set_cons_succ, List.set_cons_zero]
        clear hS hb
        have hS := hHeld
        clear hHeld
        refine wpAnyH_ready (rs := [5]) (by kernel_rfl) (by simp) ?_
        refine' AllReadyH.cons ?hoc5n762 (fun K hK => ?stc5n762) AllReadyH.nil
        case hoc5n762 => (simp only [List.getElem?_toArray, List.getElem?_cons_succ, List.getElem?_cons_zero]; rfl)
        go_simp
        refine (D1.out _ _ (C2.out.below hS)).mono ?_
        rintro e Wn7625 ⟨rfl, hb⟩
        have hz8 := (hb.block _ (blk_lt hz8)).trans hz8
        have hz7 := (hb.block _ (blk_lt hz7)).trans hz7
        go_wp2_with fail
        refine hK.out _ _ (hS.trans (hb.mono hS.size)) (fun hHeld => ?_)
        clear hK K
        try simp only [Act.put, List.setIfInBounds_toArray, List.set_cons_succ, List.set_cons_zero]
        clear hS hb
        have hS := hHeld
        clear hHeld
        refine wpAnyH_ready (rs := [8]) (by kernel_rfl) (by simp) ?_
        refine' AllReadyH.cons ?hoc8n7625 (fun K hK => ?stc8n7625) AllReadyH.nil
        case hoc8n7625 => (simp only [List.getElem?_toArray, List.getElem?_cons_succ, List.getElem?_cons_zero]; rfl)
        refine step_store_row rfl 37 (.tmp 7) (.tmp 19) rfl g7 (ncells J) rfl rfl 37 _ hz7 (i47 EB.out.1) (ZL.out _ EB.out.1) (none_ _) ?_
        refine hK.out _ _ (hS.trans (below_row _ _ hg7)) (fun hHeld => ?_)
        clear hK K
        simp only [Act.put]
        have r7 := setRow_heap _ g7 _ (ncells J) _ _ hz7
        have hz8 : (Wn7625.setRow g7 (ncells J)).heap[g8]? = some (.cells Z 37 (0, 0)) := by rw [setRow_other _ _ _ _ (Ne.symm hne)]; exact hz8
        clear hS
        have hS := hHeld
        clear hHeld
        refine wpAnyH_ready (rs := [9]) (by kernel_rfl) (by simp) ?_
        refine' AllReadyH.cons ?hoc9n7625 (fun K hK => ?stc9n7625) AllReadyH.nil
        case hoc9n7625 => (simp only [List.getElem?_toArray, List.getElem?_cons_succ, List.getElem?_cons_zero]; rfl)
        refine step_store_row rfl 37 (.tmp 8) (.tmp 22) rfl g8 (ncells I) rfl rfl 37 _ hz8 (i47 DB.out.1) (ZL.out _ DB.out.1) (none_ _) ?_
        refine hK.out _ _ (hS.trans (below_row _ _ hg8)) (fun hHeld => ?_)
        clear hK K
        simp only [Act.put]
        refine wpAnyH_done (by kernel_rfl) ?_ _
        have r7 : ((Wn7625.setRow g7 (ncells J)).setRow g8 (ncells I)).heap[g7]? = some (.cells (ncells J) 37 (0, 0)) := by rw [setRow_other _ _ _ _ hne]; exact r7
        have r8 := setRow_heap _ g8 _ (ncells I) _ _ hz8
        go_wp2_with fail
        go_meet
        exact ⟨g7, g8, rfl, rfl, r7, r8, hHeld⟩
  case rest =>
  obtain ⟨g7, g8, rfl, rfl, k7, k8, kb⟩ := hcut
  have R7 := Lib.hid k7
  have R8 := Lib.hid k8
  have B3 := Lib.hid (B2.out.trans (kb.mono B2.out.size))
  have G13 := Lib.hid ((kb.block _ (blk_lt G12.out)).trans G12.out)
  have RX3 := Lib.hid (RX.out.below kb)
  clear k7 k8 kb C2 G12 RX B2 E1 D1
  clear w2
  have al : Below wc.heap.size wc (wc.alloc (.cells ZZ 41)) := (Below.refl _ _).alloc (Nat.le_refl _) _
  have R10 : Hid ((wc.alloc (.cells ZZ 41)).heap[wc.heap.size]? = some (.cells ZZ 41 (0, 0))) := heap_alloc_new _ _
  have R74 := Lib.hid ((al.block _ (blk_lt R7.out)).trans R7.out)
  have R84 := Lib.hid ((al.block _ (blk_lt R8.out)).trans R8.out)
  have G14 := Lib.hid ((al.block _ (blk_lt G13.out)).trans G13.out)
  have RX4 := Lib.hid (RX3.out.below al)
  have B4 := Lib.hid (B3.out.trans (al.mono B3.out.size))
  clear al R7 R8 G13 RX3 B3
  go_wp2_with fail
  obtain ⟨g10, h10⟩ : ∃ g, g = wc.heap.size := ⟨_, rfl⟩
  obtain ⟨w4, h4⟩ : ∃ w4, w4 = wc.alloc (.cells ZZ 41) := ⟨_, rfl⟩
  rw [← h4] at R10 R74 R84 G14 RX4 B4
  rw [← h10] at R10
  rw [← h4, ← h10]
  clear h4 h10
  have aa := arr16_all
  have sq1 := SQ1.out
  have sq2 := SQ2.out
  have eq := EQ.out
  refine wp_region_held_drew (S := fun W => Below w4.heap.size w4 W) (by kernel_rfl) (Below.refl _ _).drew (fun hS => ?_)
  refine wpAnyH_ready (rs := [0]) (by kernel_rfl) (by simp) ?_
  refine' AllReadyH.cons ?hoc0q (fun K hK => ?stc0q) AllReadyH.nil
  case hoc0q => (simp only [List.getElem?_toArray, List.getElem?_cons_zero]; rfl)
  go_simp
  refine (alive5 _).mono ?_
  rintro e wa ⟨rfl, hb⟩
  go_wp2_with fail
  refine hK.out _ _ (hS.trans (hb.mono hS.size)) (fun hHeld => ?_)
  clear hK K
  try simp only [Act.put, List.setIfInBounds_toArray, List.set_cons_succ, List.set_cons_zero]
  clear hS hb
  have hS := hHeld
  clear hHeld
  refine' wpAnyH_take (i := 1) ?h1x1q ?hsx1q ?hfx1q ?hrx1q ?hQx1q (Or.inl ⟨?hwx1q, ?hyx1q⟩) hS ?restx1q
  case h1x1q => (simp only [List.getElem?_toArray, List.getElem?_cons_succ, List.getElem?_cons_zero]; rfl)
  case hsx1q => kernel_rfl
  case hfx1q => kernel_rfl
  case hrx1q => kernel_rfl
  case hQx1q => exact fun _ _ _ h => h
  case hwx1q => rfl
  case hyx1q =>
    intro W hW
    go_simp
    try with_reducible rfl
  simp only [Act.put, List.setIfInBounds_toArray, List.set_cons_succ, List.set_cons_zero]
  refine' wpAnyH_take (i := 2) ?h1x2q ?hsx2q ?hfx2q ?hrx2q ?hQx2q (Or.inl ⟨?hwx2q, ?hyx2q⟩) hS ?restx2q
  case h1x2q => (simp only [List.getElem?_toArray, List.getElem?_cons_succ, List.getElem?_cons_zero]; rfl)
  case hsx2q => kernel_rfl
  case hfx2q => kernel_rfl
  case hrx2q => kernel_rfl
  case hQx2q => exact fun _ _ _ h => h
  case hwx2q => rfl
  case hyx2q =>
    intro W hW
    go_simp
    try with_reducible rfl
  simp only [Act.put, List.setIfInBounds_toArray, List.set_cons_succ, List.set_cons_zero]
  refine' wpAnyH_take (i := 3) ?h1x3q ?hsx3q ?hfx3q ?hrx3q ?hQx3q (Or.inl ⟨?hwx3q, ?hyx3q⟩) hS ?restx3q
  case h1x3q => (simp only [List.getElem?_toArray, List.getElem?_cons_succ, List.getElem?_cons_zero]; rfl)
  case hsx3q => kernel_rfl
  case hfx3q => kernel_rfl
  case hrx3q => kernel_rfl
  case hQx3q => exact fun _ _ _ h => h
  case hwx3q => rfl
  case hyx3q =>
    intro W hW
    have cs := SR.out W g7 _ EB.out ((hW.block _ (blk_lt R74.out)).trans R74.out)
    go_simp
    try with_reducible rfl
  simp only [Act.put, List.setIfInBounds_toArray, List.set_cons_succ, List.set_cons_zero]
  refine' wpAnyH_take (i := 4) ?h1x4q ?hsx4q ?hfx4q ?hrx4q ?hQx4q (Or.inl ⟨?hwx4q, ?hyx4q⟩) hS ?restx4q
  case h1x4q => (simp only [List.getElem?_toArray, List.getElem?_cons_succ, List.getElem?_cons_zero]; rfl)
  case hsx4q => kernel_rfl
  case hfx4q => kernel_rfl
  case hrx4q => kernel_rfl
  case hQx4q => exact fun _ _ _ h => h
  case hwx4q => rfl
  case hyx4q =>
    intro W hW
    go_simp
    try with_reducible rfl
  simp only [Act.put, List.setIfInBounds_toArray, List.set_cons_succ, List.set_cons_zero]
  refine' wpAnyH_take (i := 5) ?h1x5q ?hsx5q ?hfx5q ?hrx5q ?hQx5q (Or.inl ⟨?hwx5q, ?hyx5q⟩) hS ?restx5q
  case h1x5q => (simp only [List.getElem?_toArray, List.getElem?_cons_succ, List.getElem?_cons_zero]; rfl)
  case hsx5q => kernel_rfl
  case hfx5q => kernel_rfl
  case hrx5q => kernel_rfl
  case hQx5q => exact fun _ _ _ h => h
  case hwx5q => rfl
  case hyx5q =>
    intro W hW
    go_simp
    try with_reducible rfl
  simp only [Act.put, List.setIfInBounds_toArray, List.set_cons_succ, List.set_cons_zero]
  refine wpAnyH_ready (rs := [6]) (by kernel_rfl) (by simp) ?_
  refine' AllReadyH.cons ?hoc6q (fun K hK => ?stc6q) AllReadyH.nil
  case hoc6q => (simp only [List.getElem?_toArray, List.getElem?_cons_succ, List.getElem?_cons_zero]; rfl)
  go_simp
  refine (RT.out _ _ _ (RX4.out.below hS) ((hS.block _ (blk_lt G14.out)).trans G14.out)).mono ?_
  rintro e wb ⟨q1, c1, rfl, ho1, hb⟩
  go_wp2_with fail
  refine hK.out _ _ (hS.trans (hb.mono hS.size)) (fun hHeld => ?_)
  clear hK K
  try simp only [Act.put, List.setIfInBounds_toArray, List.set_cons_succ, List.set_cons_zero]
  have HO1 := Lib.hid ho1
  clear ho1
  clear hS hb
  have hS := hHeld
  clear hHeld
  have B5 := Lib.hid hS
  refine moreS (S' := fun W => Below wb.heap.size wb W) (fun W hW => B5.out.trans (hW.mono B5.out.size)) _ _ _ _ ?_
  clear hS
  have hS := Below.refl wb.heap.size wb
  refine' wpAnyH_take (i := 7) ?h1x7q ?hsx7q ?hfx7q ?hrx7q ?hQx7q (Or.inl ⟨?hwx7q, ?hyx7q⟩) hS ?restx7q
  case h1x7q => (simp only [List.getElem?_toArray, List.getElem?_cons_succ, List.getElem?_cons_zero]; rfl)
  case hsx7q => kernel_rfl
  case hfx7q => kernel_rfl
  case hrx7q => kernel_rfl
  case hQx7q => exact fun _ _ _ h => h
  case hwx7q => rfl
  case hyx7q =>
    intro W hW
    have cs := (HO1.out.below hW).str
    go_simp
    try with_reducible rfl
  simp only [Act.put, List.setIfInBounds_toArray, List.set_cons_succ, List.set_cons_zero]
  refine' wpAnyH_take (i := 8) ?h1x8q ?hsx8q ?hfx8q ?hrx8q ?hQx8q (Or.inl ⟨?hwx8q, ?hyx8q⟩) hS ?restx8q
  case h1x8q => (simp only [List.getElem?_toArray, List.getElem?_cons_succ, List.getElem?_cons_zero]; rfl)
  case hsx8q => kernel_rfl
  case hfx8q => kernel_rfl
  case hrx8q => kernel_rfl
  case hQx8q => exact fun _ _ _ h => h
  case hwx8q => rfl
  case hyx8q =>
    intro W hW
    go_simp
    try with_reducible rfl
  simp only [Act.put, List.setIfInBounds_toArray, List.set_cons_succ, List.set_cons_zero]
  refine' wpAnyH_take (i := 9) ?h1x9q ?hsx9q ?hfx9q ?hrx9q ?hQx9q (Or.inl ⟨?hwx9q, ?hyx9q⟩) hS ?restx9q
  case h1x9q => (simp only [List.getElem?_toArray, List.getElem?_cons_succ, List.getElem?_cons_zero]; rfl)
  case hsx9q => kernel_rfl
  case hfx9q => kernel_rfl
  case hrx9q => kernel_rfl
  case hQx9q => exact fun _ _ _ h => h
  case hwx9q => rfl
  case hyx9q =>
    intro W hW
    go_simp
    try with_reducible rfl
  simp only [Act.put, List.setIfInBounds_toArray, List.set_cons_succ, List.set_cons_zero]
  refine' wpAnyH_take (i := 10) ?h1x10q ?hsx10q ?hfx10q ?hrx10q ?hQx10q (Or.inl ⟨?hwx10q, ?hyx10q⟩) hS ?restx10q
  case h1x10q => (simp only [List.getElem?_toArray, List.getElem?_cons_succ, List.getElem?_cons_zero]; rfl)
  case hsx10q => kernel_rfl
  case hfx10q => kernel_rfl
  case hrx10q => kernel_rfl
  case hQx10q => exact fun _ _ _ h => h
  case hwx10q => rfl
  case hyx10q =>
    intro W hW
    go_simp
    try with_reducible rfl
  simp only [Act.put, List.setIfInBounds_toArray, List.set_cons_succ, List.set_cons_zero]
  refine' wpAnyH_take (i := 11) ?h1x11q ?hsx11q ?hfx11q ?hrx11q ?hQx11q (Or.inl ⟨?hwx11q, ?hyx11q⟩) hS ?restx11q
  case h1x11q => (simp only [List.getElem?_toArray, List.getElem?_cons_succ, List.getElem?_cons_zero]; rfl)
  case hsx11q => kernel_rfl
  case hfx11q => kernel_rfl
  case hrx11q => kernel_rfl
  case hQx11q => exact fun _ _ _ h => h
  case hwx11q => rfl
  case hyx11q =>
    intro W hW
    go_simp
    try with_reducible rfl
  simp only [Act.put, List.setIfInBounds_toArray, List.set_cons_succ, List.set_cons_zero]
  refine' wpAnyH_take (i := 12) ?h1x12q ?hsx12q ?hfx12q ?hrx12q ?hQx12q (Or.inl ⟨?hwx12q, ?hyx12q⟩) hS ?restx12q
  case h1x12q => (simp only [List.getElem?_toArray, List.getElem?_cons_succ, List.getElem?_cons_zero]; rfl)
  case hsx12q => kernel_rfl
  case hfx12q => kernel_rfl
  case hrx12q => kernel_rfl
  case hQx12q => exact fun _ _ _ h => h
  case hwx12q => rfl
  case hyx12q =>
    intro W hW
    have hW3 := B5.out.trans (hW.mono B5.out.size)
    have cs := SR.out W g8 _ DB.out ((hW3.block _ (blk_lt R84.out)).trans R84.out)
    go_simp
    try with_reducible rfl
  simp only [Act.put, List.setIfInBounds_toArray, List.set_cons_succ, List.set_cons_zero]
  refine' wpAnyH_take (i := 13) ?h1x13q ?hsx13q ?hfx13q ?hrx13q ?hQx13q (Or.inl ⟨?hwx13q, ?hyx13q⟩) hS ?restx13q
  case h1x13q => (simp only [List.getElem?_toArray, List.getElem?_cons_succ, List.getElem?_cons_zero]; rfl)
  case hsx13q => kernel_rfl
  case hfx13q => kernel_rfl
  case hrx13q => kernel_rfl
  case hQx13q => exact fun _ _ _ h => h
  case hwx13q => rfl
  case hyx13q =>
    intro W hW
    go_simp
    try with_reducible rfl
  simp only [Act.put, List.setIfInBounds_toArray, List.set_cons_succ, List.set_cons_zero]
  refine' wpAnyH_take (i := 14) ?h1x14q ?hsx14q ?hfx14q ?hrx14q ?hQx14q (Or.inl ⟨?hwx14q, ?hyx14q⟩) hS ?restx14q
  case h1x14q => (simp only [List.getElem?_toArray, List.getElem?_cons_succ, List.getElem?_cons_zero]; rfl)
  case hsx14q => kernel_rfl
  case hfx14q => kernel_rfl
  case hrx14q => kernel_rfl
  case hQx14q => exact fun _ _ _ h => h
  case hwx14q => rfl
  case hyx14q =>
    intro W hW
    go_simp
    try with_reducible rfl
  simp only [Act.put, List.setIfInBounds_toArray, List.set_cons_succ, List.set_cons_zero]
  refine wpAnyH_ready (rs := [15]) (by kernel_rfl) (by simp) ?_
  refine' AllReadyH.cons ?hoc15q (fun K hK => ?stc15q) AllReadyH.nil
  case hoc15q => (simp only [List.getElem?_toArray, List.getElem?_cons_succ, List.getElem?_cons_zero]; rfl)
  go_simp
  refine (RB.out _ _ _ (RX4.out.below (B5.out.trans (hS.mono B5.out.size))) (((B5.out.trans (hS.mono B5.out.size)).block _ (blk_lt G14.out)).trans G14.out)).mono ?_
  rintro e wd ⟨q2, c2, rfl, ho2, hb⟩
  go_wp2_with fail
  refine hK.out _ _ (hS.trans (hb.mono hS.size)) (fun hHeld => ?_)
  clear hK K
  try simp only [Act.put, List.setIfInBounds_toArray, List.set_cons_succ, List.set_cons_zero]
  have HO2 := Lib.hid ho2
  clear ho2
  clear hS hb
  have hS := hHeld
  clear hHeld
  have B6 := Lib.hid hS
  refine moreS (S' := fun W => Below wd.heap.size wd W) (fun W hW => B6.out.trans (hW.mono B6.out.size)) _ _ _ _ ?_
  clear hS
  have hS := Below.refl wd.heap.size wd
  have B7 := Lib.hid (B5.out.trans (B6.out.mono B5.out.size))
  refine' wpAnyH_take (i := 16) ?h1x16q ?hsx16q ?hfx16q ?hrx16q ?hQx16q (Or.inl ⟨?hwx16q, ?hyx16q⟩) hS ?restx16q
  case h1x16q => (simp only [List.getElem?_toArray, List.getElem?_cons_succ, List.getElem?_cons_zero]; rfl)
  case hsx16q => kernel_rfl
  case hfx16q => kernel_rfl
  case hrx16q => kernel_rfl
  case hQx16q => exact fun _ _ _ h => h
  case hwx16q => rfl
  case hyx16q =>
    intro W hW
    have cs := (HO2.out.below hW).str
    go_simp
    try with_reducible rfl
  simp only [Act.put, List.setIfInBounds_toArray, List.set_cons_succ, List.set_cons_zero]
  refine' wpAnyH_take (i := 17) ?h1x17q ?hsx17q ?hfx17q ?hrx17q ?hQx17q (Or.inl ⟨?hwx17q, ?hyx17q⟩) hS ?restx17q
  case h1x17q => (simp only [List.getElem?_toArray, List.getElem?_cons_succ, List.getElem?_cons_zero]; rfl)
  case hsx17q => kernel_rfl
  case hfx17q => kernel_rfl
  case hrx17q => kernel_rfl
  case hQx17q => exact fun _ _ _ h => h
  case hwx17q => rfl
  case hyx17q =>
    intro W hW
    go_simp
    try with_reducible rfl
  simp only [Act.put, List.setIfInBounds_toArray, List.set_cons_succ, List.set_cons_zero]
  refine' wpAnyH_take (i := 18) ?h1x18q ?hsx18q ?hfx18q ?hrx18q ?hQx18q (Or.inl ⟨?hwx18q, ?hyx18q⟩) hS ?restx18q
  case h1x18q => (simp only [List.getElem?_toArray, List.getElem?_cons_succ, List.getElem?_cons_zero]; rfl)
  case hsx18q => kernel_rfl
  case hfx18q => kernel_rfl
  case hrx18q => kernel_rfl
  case hQx18q => exact fun _ _ _ h => h
  case hwx18q => rfl
  case hyx18q =>
    intro W hW
    go_simp
    try with_reducible rfl
  simp only [Act.put, List.setIfInBounds_toArray, List.set_cons_succ, List.set_cons_zero]
  refine' wpAnyH_take (i := 19) ?h1x19q ?hsx19q ?hfx19q ?hrx19q ?hQx19q (Or.inl ⟨?hwx19q, ?hyx19q⟩) hS ?restx19q
  case h1x19q => (simp only [List.getElem?_toArray, List.getElem?_cons_succ, List.getElem?_cons_zero]; rfl)
  case hsx19q => kernel_rfl
  case hfx19q => kernel_rfl
  case hrx19q => kernel_rfl
  case hQx19q => exact fun _ _ _ h => h
  case hwx19q => rfl
  case hyx19q =>
    intro W hW
    go_simp
    try with_reducible rfl
  simp only [Act.put, List.setIfInBounds_toArray, List.set_cons_succ, List.set_cons_zero]
  refine' wpAnyH_take (i := 20) ?h1x20q ?hsx20q ?hfx20q ?hrx20q ?hQx20q (Or.inl ⟨?hwx20q, ?hyx20q⟩) hS ?restx20q
  case h1x20q => (simp only [List.getElem?_toArray, List.getElem?_cons_succ, List.getElem?_cons_zero]; rfl)
  case hsx20q => kernel_rfl
  case hfx20q => kernel_rfl
  case hrx20q => kernel_rfl
  case hQx20q => exact fun _ _ _ h => h
  case hwx20q => rfl
  case hyx20q =>
    intro W hW
    go_simp
    try with_reducible rfl
  simp only [Act.put, List.setIfInBounds_toArray, List.set_cons_succ, List.set_cons_zero]
  refine' wpAnyH_take (i := 21) ?h1x21q ?hsx21q ?hfx21q ?hrx21q ?hQx21q (yieldsIf_load_at ?hwx21q 37 (.tmp 3) ?hopx21q (w.heap.size + 1) 0 rfl (ncells b) _ (fun W hW => range_row (((B7.out.trans (hW.mono B7.out.size)).block _ (blk_lt G14.out)).trans G14.out)) Try.underlying37 rfl ?hix21q) hS ?restx21q
  case h1x21q => (simp only [List.getElem?_toArray, List.getElem?_cons_succ, List.getElem?_cons_zero]; rfl)
  case hopx21q => rfl
  case hsx21q => kernel_rfl
  case hfx21q => kernel_rfl
  case hrx21q => kernel_rfl
  case hQx21q => exact fun _ _ _ h => h
  case hwx21q => rfl
  case hix21q => exact (i47 BL.out)
  simp only [Act.put, List.setIfInBounds_toArray, List.set_cons_succ, List.set_cons_zero]
  refine' wpAnyH_take (i := 23) ?h1x23q ?hsx23q ?hfx23q ?hrx23q ?hQx23q (Or.inl ⟨?hwx23q, ?hyx23q⟩) hS ?restx23q
  case h1x23q => (simp only [List.getElem?_toArray, List.getElem?_cons_succ, List.getElem?_cons_zero]; rfl)
  case hsx23q => kernel_rfl
  case hfx23q => kernel_rfl
  case hrx23q => kernel_rfl
  case hQx23q => exact fun _ _ _ h => h
  case hwx23q => rfl
  case hyx23q =>
    intro W hW
    go_simp
    try with_reducible rfl
  simp only [Act.put, List.setIfInBounds_toArray, List.set_cons_succ, List.set_cons_zero]
  refine wpAnyH_ready (rs := [22]) (by kernel_rfl) (by simp) ?_
  refine' AllReadyH.cons ?hoc22q (fun K hK => ?stc22q) AllReadyH.nil
  case hoc22q => (simp only [List.getElem?_toArray, List.getElem?_cons_succ, List.getElem?_cons_zero]; rfl)
  go_simp
  refine (TN.out _).mono ?_
  rintro e we ⟨rfl, hb⟩
  go_wp2_with fail
  refine hK.out _ _ (hS.trans (hb.mono hS.size)) (fun hHeld => ?_)
  clear hK K
  try simp only [Act.put, List.setIfInBounds_toArray, List.set_cons_succ, List.set_cons_zero]
  clear hS hb
  have hS := hHeld
  clear hHeld
  refine' wpAnyH_take (i := 24) ?h1x24q ?hsx24q ?hfx24q ?hrx24q ?hQx24q (Or.inl ⟨?hwx24q, ?hyx24q⟩) hS ?restx24q
  case h1x24q => (simp only [List.getElem?_toArray, List.getElem?_cons_succ, List.getElem?_cons_zero]; rfl)
  case hsx24q => kernel_rfl
  case hfx24q => kernel_rfl
  case hrx24q => kernel_rfl
  case hQx24q => exact fun _ _ _ h => h
  case hwx24q => rfl
  case hyx24q =>
    intro W hW
    go_simp
    try with_reducible rfl
  simp only [Act.put, List.setIfInBounds_toArray, List.set_cons_succ, List.set_cons_zero]
  refine' wpAnyH_take (i := 25) ?h1x25q ?hsx25q ?hfx25q ?hrx25q ?hQx25q (Or.inl ⟨?hwx25q, ?hyx25q⟩) hS ?restx25q
  case h1x25q => (simp only [List.getElem?_toArray, List.getElem?_cons_succ, List.getElem?_cons_zero]; rfl)
  case hsx25q => kernel_rfl
  case hfx25q => kernel_rfl
  case hrx25q => kernel_rfl
  case hQx25q => exact fun _ _ _ h => h
  case hwx25q => rfl
  case hyx25q =>
    intro W hW
    go_simp
    try with_reducible rfl
  simp only [Act.put, List.setIfInBounds_toArray, List.set_cons_succ, List.set_cons_zero]
  refine' wpAnyH_take (i := 26) ?h1x26q ?hsx26q ?hfx26q ?hrx26q ?hQx26q (Or.inl ⟨?hwx26q, ?hyx26q⟩) hS ?restx26q
  case h1x26q => (simp only [List.getElem?_toArray, List.getElem?_cons_succ, List.getElem?_cons_zero]; rfl)
  case hsx26q => kernel_rfl
  case hfx26q => kernel_rfl
  case hrx26q => kernel_rfl
  case hQx26q => exact fun _ _ _ h => h
  case hwx26q => rfl
  case hyx26q =>
    intro W hW
    go_simp
    try with_reducible rfl
  simp only [Act.put, List.setIfInBounds_toArray, List.set_cons_succ, List.set_cons_zero]
  refine' wpAnyH_take (i := 27) ?h1x27q ?hsx27q ?hfx27q ?hrx27q ?hQx27q (yieldsIf_load_at ?hwx27q 37 (.tmp 3) ?hopx27q (w.heap.size + 1) 0 rfl (ncells b) _ (fun W hW => range_row (((B7.out.trans (hW.mono B7.out.size)).block _ (blk_lt G14.out)).trans G14.out)) Try.underlying37 rfl ?hix27q) hS ?restx27q
  case h1x27q => (simp only [List.getElem?_toArray, List.getElem?_cons_succ, List.getElem?_cons_zero]; rfl)
  case hopx27q => rfl
  case hsx27q => kernel_rfl
  case hfx27q => kernel_rfl
  case hrx27q => kernel_rfl
  case hQx27q => exact fun _ _ _ h => h
  case hwx27q => rfl
  case hix27q => exact (i47 BL.out)
  simp only [Act.put, List.setIfInBounds_toArray, List.set_cons_succ, List.set_cons_zero]
  refine' wpAnyH_take (i := 29) ?h1x29q ?hsx29q ?hfx29q ?hrx29q ?hQx29q (Or.inl ⟨?hwx29q, ?hyx29q⟩) hS ?restx29q
  case h1x29q => (simp only [List.getElem?_toArray, List.getElem?_cons_succ, List.getElem?_cons_zero]; rfl)
  case hsx29q => kernel_rfl
  case hfx29q => kernel_rfl
  case hrx29q => kernel_rfl
  case hQx29q => exact fun _ _ _ h => h
  case hwx29q => rfl
  case hyx29q =>
    intro W hW
    go_simp
    try with_reducible rfl
  simp only [Act.put, List.setIfInBounds_toArray, List.set_cons_succ, List.set_cons_zero]
  refine wpAnyH_ready (rs := [28]) (by kernel_rfl) (by simp) ?_
  refine' AllReadyH.cons ?hoc28q (fun K hK => ?stc28q) AllReadyH.nil
  case hoc28q => (simp only [List.getElem?_toArray, List.getElem?_cons_succ, List.getElem?_cons_zero]; rfl)
  go_simp
  refine (BZ.out _ _ (((B7.out.trans (hS.mono B7.out.size)).block _ (blk_lt R10.out)).trans R10.out)).mono ?_
  rintro e wf ⟨rfl, hb⟩
  go_wp2_with fail
  refine hK.out _ _ (hS.trans (hb.mono hS.size)) (fun hHeld => ?_)
  clear hK K
  try simp only [Act.put, List.setIfInBounds_toArray, List.set_cons_succ, List.set_cons_zero]
  clear hS hb
  have hS := hHeld
  clear hHeld
  refine' wpAnyH_take (i := 30) ?h1x30q ?hsx30q ?hfx30q ?hrx30q ?hQx30q (Or.inl ⟨?hwx30q, ?hyx30q⟩) hS ?restx30q
  case h1x30q => (simp only [List.getElem?_toArray, List.getElem?_cons_succ, List.getElem?_cons_zero]; rfl)
  case hsx30q => kernel_rfl
  case hfx30q => kernel_rfl
  case hrx30q => kernel_rfl
  case hQx30q => exact fun _ _ _ h => h
  case hwx30q => rfl
  case hyx30q =>
    intro W hW
    go_simp
    try with_reducible rfl
  simp only [Act.put, List.setIfInBounds_toArray, List.set_cons_succ, List.set_cons_zero]
  refine' wpAnyH_take (i := 31) ?h1x31q ?hsx31q ?hfx31q ?hrx31q ?hQx31q (Or.inl ⟨?hwx31q, ?hyx31q⟩) hS ?restx31q
  case h1x31q => (simp only [List.getElem?_toArray, List.getElem?_cons_succ, List.getElem?_cons_zero]; rfl)
  case hsx31q => kernel_rfl
  case hfx31q => kernel_rfl
  case hrx31q => kernel_rfl
  case hQx31q => exact fun _ _ _ h => h
  case hwx31q => rfl
  case hyx31q =>
    intro W hW
    go_simp
    try with_reducible rfl
  simp only [Act.put, List.setIfInBounds_toArray, List.set_cons_succ, List.set_cons_zero]
  refine' wpAnyH_take (i := 32) ?h1x32q ?hsx32q ?hfx32q ?hrx32q ?hQx32q (Or.inl ⟨?hwx32q, ?hyx32q⟩) hS ?restx32q
  case h1x32q => (simp only [List.getElem?_toArray, List.getElem?_cons_succ, List.getElem?_cons_zero]; rfl)
  case hsx32q => kernel_rfl
  case hfx32q => kernel_rfl
  case hrx32q => kernel_rfl
  case hQx32q => exact fun _ _ _ h => h
  case hwx32q => rfl
  case hyx32q =>
    intro W hW
    go_simp
    try with_reducible rfl
  simp only [Act.put, List.setIfInBounds_toArray, List.set_cons_succ, List.set_cons_zero]
  refine wpAnyH_done (by kernel_rfl) ?_ _
  go_wp2_with fail
  go_ret
  exact ⟨rfl, B4.out.trans ((B7.out.trans (hS.mono B7.out.size)).mono B4.out.size)⟩

set_option maxRecDepth 100000 in
theorem lifted (os : Os) (started : os.Started) (H : Type) (enc : TypeId × Value → H) :
    ReturnsInHanded {} Try.checked os 4 .any (Rows.aesTurnsSpec.pre6 enc Try.prog Try.f4 Rows.aesTurnsRow.domain false) (Rows.aesTurnsSpec.post enc Try.prog Try.f4 false true false false) := by
  refine returnsInHanded_of_change (C := Try.checked) own started (by kernel_rfl) Try.func4
    (ChangeSpec.witness6 (enc := enc) (C := Try.checked) false ⟨#[], #[.agg (Array.replicate 32 (.int .u8 0)), .agg (Array.replicate 16 (.int .u8 0))], []⟩ 8 (by kernel_rfl) (by kernel_rfl) (by kernel_rfl) (by kernel_rfl)) ?_
  intro W base args ds gs before hval0 hW hcnd _
  have hval : ∀ (j : Nat) t v, Try.f4.params[j]? = some t → args[j]? = some v → Value.okWide Try.prog W .any base t v := hval0
  have hW' := hW
  obtain ⟨p, q, hA0, hV, rfl, hfz, hnd⟩ := hW
  have hA : DataW.TrodAll enc Try.prog W 0 (fun _ => true) true Try.f4.params.toList args.toList ds p := hA0
  rw [Try.params4] at hA hval
  obtain ⟨v0, vs0, d0, ds0, p0, q0, hargs, rfl, rfl, h0, r0⟩ := trodAll_cons hA
  obtain ⟨v1, vs1, d1, ds1, p1, q1, rfl, rfl, rfl, h1, r1⟩ := trodAll_cons r0
  obtain ⟨rfl, rfl, rfl⟩ := trodAll_nil r1
  obtain rfl : args = #[v0, v1] := by cases args; simp_all
  obtain ⟨rfl, rfl⟩ := trodVars_none hV
  obtain ⟨x0, b0, rfl⟩ := open_arr u23 cellsOf23 (hval 0 23 v0 rfl rfl) h0
  obtain ⟨x1, b1, rfl⟩ := open_arr u37 cellsOf37 (hval 1 37 v1 rfl rfl) h1
  refine (walk x0 x1 b0 b1 W).mono fun e W' ⟨he, hb⟩ => ?_
  subst he
  exact ⟨_, rfl, law_post hW' rfl rfl rfl (by kernel_rfl) hb⟩

/-- The statement. -/
theorem proved : Rows.AesTurnsSaid :=
  OpenClaim.holds_of_wide 4 Try.f4 rfl rfl rfl rfl rfl rfl rfl ⟨rfl, rfl, rfl, rfl, rfl⟩ rfl rfl rfl rfl rfl (by kernel_rfl) Try.func4 (by kernel_rfl)
    (of_decide_eq_true (by kernel_rfl)) (by unfold Func.isWrapper; first | (rw [if_pos (by decide +kernel)]; kernel_rfl) | (rw [if_neg (by decide +kernel)]; exact ⟨rfl, rfl⟩))
    (fun os started H enc _ => lifted os started H enc)
#print axioms proved
end Go.Proofs.Ytekffhopmicalaa.aesTurns
