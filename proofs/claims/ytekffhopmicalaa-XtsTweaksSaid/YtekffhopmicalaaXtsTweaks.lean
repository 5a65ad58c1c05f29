/-
  For all pairs of stamps and of masks the law XtsTweaks of package casematelaw06 returns true, and they read afterwards as before: unlike stamps have unlike tweaks; unlike masks are doubled to unlike ones; a sum is doubled as its parts. Condition: none.
-/
import Derived.Test.YtekffhopmicalaaSE
import Derived.Deep.DeepCutAuto
namespace Go.Proofs.Ytekffhopmicalaa.xtsTweaks
open Go.ChangeShapes Go.WideShapes Go.ChangeAt Go.RowKit
theorem row_at (a b : List Nat) (i : Nat) : (ncells (fillr 16 (fun j => Nat.xor (at_ a j) (at_ b j)) i)).setIfInBounds i (.int .u8 (Nat.xor (at_ a i) (at_ b i) : Nat)) = ncells (fillr 16 (fun j => Nat.xor (at_ a j) (at_ b j)) (i + 1)) := fillr_set 16 (fun j => Nat.xor (at_ a j) (at_ b j)) i
/-- What lies in memory: the masks, their doubles, the sums. -/
def TK (w : World) (g9 g10 g11 g12 : Nat) (m n x y bo wa : List Nat) (W : World) : Prop :=
  W.heap[w.heap.size]? = some (.cells (ncells m) 37 (0, 0)) ∧ W.heap[w.heap.size + 1]? = some (.cells (ncells n) 37 (0, 0)) ∧ W.heap[g9]? = some (.cells (ncells x) 37 (0, 0)) ∧ W.heap[g10]? = some (.cells (ncells y) 37 (0, 0)) ∧
  W.heap[g11]? = some (.cells (ncells bo) 37 (0, 0)) ∧ W.heap[g12]? = some (.cells (ncells wa) 37 (0, 0)) ∧ Below w.heap.size w W
theorem TK.below {w W W' : World} {g9 g10 g11 g12 : Nat} {m n x y bo wa : List Nat} (h : TK w g9 g10 g11 g12 m n x y bo wa W) (hb : Below W.heap.size W W') : TK w g9 g10 g11 g12 m n x y bo wa W' :=
  ⟨(hb.block _ (blk_lt h.1)).trans h.1, (hb.block _ (blk_lt h.2.1)).trans h.2.1, (hb.block _ (blk_lt h.2.2.1)).trans h.2.2.1, (hb.block _ (blk_lt h.2.2.2.1)).trans h.2.2.2.1, (hb.block _ (blk_lt h.2.2.2.2.1)).trans h.2.2.2.2.1, (hb.block _ (blk_lt h.2.2.2.2.2.1)).trans h.2.2.2.2.2.1, h.2.2.2.2.2.2.trans (hb.mono h.2.2.2.2.2.2.size)⟩
set_option maxRecDepth 100000 in
set_option maxHeartbeats 8000000 in
theorem walk (s t : Int) (m n : List Nat) (hs : 0 ≤ s ∧ s ≤ 18446744073709551615) (ht : 0 ≤ t ∧ t ≤ 18446744073709551615) (hm : Bts 16 m) (hn : Bts 16 n) (w : World) :
    Calls Try.prog 12 #[.int .u64 s, .int .u64 t, .agg (ncells m), .agg (ncells n)] w fun e w' => e = .returned (.bool true) ∧ Below w.heap.size w w' := by
  obtain ⟨s, rfl⟩ := Int.eq_ofNat_of_zero_le hs.1
  obtain ⟨t, rfl⟩ := Int.eq_ofNat_of_zero_le ht.1
  have D1 : Hid (∀ W : World, Calls Try.prog 25 #[.agg (ncells m)] W fun e w' => e = .returned (.agg (ncells (dbm m))) ∧ Below W.heap.size W w') := fun W => doubleC m hm W
  have D2 : Hid (∀ W : World, Calls Try.prog 25 #[.agg (ncells n)] W fun e w' => e = .returned (.agg (ncells (dbm n))) ∧ Below W.heap.size W w') := fun W => doubleC n hn W
  have D3 : Hid (∀ W : World, Calls Try.prog 25 #[.agg (ncells (jn m n))] W fun e w' => e = .returned (.agg (ncells (jn (dbm m) (dbm n)))) ∧ Below W.heap.size W w') := fun W => by
    have := doubleC (jn m n) (jn_bts hm hn) W
    rw [dbm_jn hm hn] at this; exact this
  have TS1 : Hid (∀ W : World, Calls Try.prog 26 #[.int .u64 s] W fun e w' => e = .returned (.agg (ncells (twk s))) ∧ Below W.heap.size W w') := fun W => tweakC s W
  have TS2 : Hid (∀ W : World, Calls Try.prog 26 #[.int .u64 t] W fun e w' => e = .returned (.agg (ncells (twk t))) ∧ Below W.heap.size W w') := fun W => tweakC t W
  obtain ⟨d, hd⟩ : ∃ d, d = decide (s = t) := ⟨_, rfl⟩
  obtain ⟨e, he⟩ : ∃ e, e = decide (m = n) := ⟨_, rfl⟩
  have Q1 : Hid (∀ W : World, (Op.equalIn 10000 37 (.agg (ncells (twk s))) (.agg (ncells (twk t)))).run Try.prog W = .ok d W) := fun W => by
    rw [eq37 _ _ (twk_bts s) (twk_bts t) W, hd]
    congr 1
    rw [decide_eq_decide]
    exact ⟨fun h => twk_inj (by omega) (by omega) h, fun h => by rw [h]⟩
  have Q2 : Hid (((s : Int) == (t : Int)) = d) := by
    show _ = _
    rw [hd, Bool.eq_iff_iff]; simp; omega
  have Q3 : Hid (∀ W : World, (Op.equalIn 10000 37 (.agg (ncells (dbm m))) (.agg (ncells (dbm n)))).run Try.prog W = .ok e W) := fun W => by
    rw [eq37 _ _ (dbm_bts hm) (dbm_bts hn) W, he]
    congr 1
    rw [decide_eq_decide]
    exact ⟨fun h => dbm_inj hm hn h, fun h => by rw [h]⟩
  have Q4 : Hid (∀ W : World, (Op.equalIn 10000 37 (.agg (ncells m)) (.agg (ncells n))).run Try.prog W = .ok e W) := fun W => by rw [he]; exact eq37 m n hm hn W
  have Q5 : Hid (∀ W : World, (Op.equalIn 10000 37 (.agg (ncells (jn (dbm m) (dbm n)))) (.agg (ncells (jn (dbm m) (dbm n))))).run Try.prog W = .ok true W) := fun W => by
    have := eq37 _ _ (jn_bts (dbm_bts hm) (dbm_bts hn)) (jn_bts (dbm_bts hm) (dbm_bts hn)) W
    rw [decide_eq_true rfl] at this; exact this
  have zz := zero47
  obtain ⟨Z, hZ⟩ : ∃ Z, Z = ncells (zeros 16) := ⟨_, rfl⟩
  rw [← hZ] at zz
  have HM := Lib.hid hm
  have HN := Lib.hid hn
  have XB : Hid (Bts 16 (dbm m)) := dbm_bts hm
  have YB : Hid (Bts 16 (dbm n)) := dbm_bts hn
  have ZL : Hid (∀ l : List Nat, l.length = 16 → Z.size = (ncells l).size) := fun l hl => by rw [hZ]; exact z47 hl
  have FB0 : Hid (Z = ncells (fillr 16 (fun j => Nat.xor (at_ m j) (at_ n j)) 0)) := by show _ = _; rw [fillr_zero, hZ]
  have FW0 : Hid (Z = ncells (fillr 16 (fun j => Nat.xor (at_ (dbm m) j) (at_ (dbm n) j)) 0)) := by show _ = _; rw [fillr_zero, hZ]
  have FB : Hid (fillr 16 (fun j => Nat.xor (at_ m j) (at_ n j)) 16 = jn m n) := fillr_all _ _
  have FW : Hid (fillr 16 (fun j => Nat.xor (at_ (dbm m) j) (at_ (dbm n) j)) 16 = jn (dbm m) (dbm n)) := fillr_all _ _
  have JB : Hid (Bts 16 (jn m n)) := jn_bts hm hn
  have JW : Hid (Bts 16 (jn (dbm m) (dbm n))) := jn_bts (dbm_bts hm) (dbm_bts hn)
  generalize twk s = S1 at *
  generalize twk t = T1 at *
  generalize dbm m = x at *
  generalize dbm n = y at *
  obtain ⟨W0, hW0⟩ : ∃ W0, W0 = (w.alloc (.cells (ncells m) 37)).alloc (.cells (ncells n) 37) := ⟨_, rfl⟩
  have HB : Hid (Below w.heap.size w W0) := by rw [hW0]; exact ((Below.refl _ _).alloc (Nat.le_refl _) _).alloc (by simp) _
  have G0 : Hid (W0.heap[w.heap.size]? = some (.cells (ncells m) 37 (0, 0))) := by show _ = _; rw [hW0, Below.heap_alloc _ _ _ (by simp)]; exact heap_alloc_new w _
  have G1 : Hid (W0.heap[w.heap.size + 1]? = some (.cells (ncells n) 37 (0, 0))) := by show _ = _; rw [hW0]; exact heap_alloc2_new w _ _
  have HW0 := Lib.hid hW0
  clear hZ hm hn hs ht hd he hW0
  go_enter Try.func12, Try.ntmps12
  go_upto_region 1 with fail
  rw [← HW0.out]
  go_cut [9, 10] (fun s9 s10 wx => ∃ g9 g10, s9 = .pointer (some ⟨g9, 0, none⟩) ∧ s10 = .pointer (some ⟨g10, 0, none⟩) ∧ w.heap.size + 1 < g9 ∧ w.heap.size + 1 < g10 ∧ g9 ≠ g10 ∧ wx.heap[w.heap.size]? = some (.cells (ncells m) 37 (0, 0)) ∧ wx.heap[w.heap.size + 1]? = some (.cells (ncells n) 37 (0, 0)) ∧ wx.heap[g9]? = some (.cells (ncells x) 37 (0, 0)) ∧ wx.heap[g10]? = some (.cells (ncells y) 37 (0, 0)) ∧ Below w.heap.size w wx)
  case first =>
    refine wp_region_held_drew (S := fun W => Below W0.heap.size W0 W) (by kernel_rfl) (Below.refl _ _).drew (fun hS => ?_)
    refine' wpAnyH_take (i := 0) ?h1x0p ?hsx0p ?hfx0p ?hrx0p ?hQx0p (yieldsIf_load_at ?hwx0p 37 (.tmp 6) ?hopx0p w.heap.size 0 rfl (ncells m) _ (fun W hW => range_row ((hW.block _ (blk_lt G0.out)).trans G0.out)) Try.underlying37 rfl ?hix0p) hS ?restx0p
    case h1x0p => (simp only [List.getElem?_toArray, List.getElem?_cons_zero]; rfl)
    case hopx0p => rfl
    case hsx0p => kernel_rfl
    case hfx0p => kernel_rfl
    case hrx0p => kernel_rfl
    case hQx0p => exact fun _ _ _ h => h
    case hwx0p => rfl
    case hix0p => exact (i47 HM.out.1)
    simp only [Act.put, List.setIfInBounds_toArray, List.set_cons_succ, List.set_cons_zero]
    refine' wpAnyH_take (i := 2) ?h1x2p ?hsx2p ?hfx2p ?hrx2p ?hQx2p (yieldsIf_load_at ?hwx2p 37 (.tmp 7) ?hopx2p (w.heap.size + 1) 0 rfl (ncells n) _ (fun W hW => range_row ((hW.block _ (blk_lt G1.out)).trans G1.out)) Try.underlying37 rfl ?hix2p) hS ?restx2p
    case h1x2p => (simp only [List.getElem?_toArray, List.getElem?_cons_succ, List.getElem?_cons_zero]; rfl)
    case hopx2p => rfl
    case hsx2p => kernel_rfl
    case hfx2p => kernel_rfl
    case hrx2p => kernel_rfl
    case hQx2p => exact fun _ _ _ h => h
    case hwx2p => rfl
    case hix2p => exact (i47 HN.out.1)
    simp only [Act.put, List.setIfInBounds_toArray, List.set_cons_succ, List.set_cons_zero]
    have l1 := blk_lt G1.out
    generalize hWd : W0.drew = Wd at hS ⊢
    clear hWd
    refine wpAnyH_ready (rs := [1, 4, 5]) (by kernel_rfl) (by simp) ?_
    refine' (AllReadyH.cons ?hoc1n (fun K hK => ?stc1n) (AllReadyH.cons ?hoc4n (fun K hK => ?stc4n) (AllReadyH.cons ?hoc5n (fun K hK => ?stc5n) AllReadyH.nil)))
    case hoc1n => (simp only [List.getElem?_toArray, List.getElem?_cons_succ, List.getElem?_cons_zero]; rfl)
    case hoc4n => (simp only [List.getElem?_toArray, List.getElem?_cons_succ, List.getElem?_cons_zero]; rfl)
    case hoc5n => (simp only [List.getElem?_toArray, List.getElem?_cons_succ, List.getElem?_cons_zero]; rfl)
    case stc1n =>
      go_simp
      refine (D1.out _).mono ?_
      rintro e Wn1 ⟨rfl, hb⟩
      go_wp2_with fail
      refine hK.out _ _ (hS.trans (hb.mono hS.size)) (fun hHeld => ?_)
      clear hK K
      try simp only [Act.put, List.setIfInBounds_toArray, List.set_cons_succ, List.set_cons_zero]
      clear hS hb
      have hS := hHeld
      clear hHeld
      refine wpAnyH_ready (rs := [3, 4, 5]) (by kernel_rfl) (by simp) ?_
      refine' (AllReadyH.cons ?hoc3n1 (fun K hK => ?stc3n1) (AllReadyH.cons ?hoc4n1 (fun K hK => ?stc4n1) (AllReadyH.cons ?hoc5n1 (fun K hK => ?stc5n1) AllReadyH.nil)))
      case hoc3n1 => (simp only [List.getElem?_toArray, List.getElem?_cons_succ, List.getElem?_cons_zero]; rfl)
      case hoc4n1 => (simp only [List.getElem?_toArray, List.getElem?_cons_succ, List.getElem?_cons_zero]; rfl)
      case hoc5n1 => (simp only [List.getElem?_toArray, List.getElem?_cons_succ, List.getElem?_cons_zero]; rfl)
      case stc3n1 =>
        go_simp
        refine (D2.out _).mono ?_
        rintro e Wn13 ⟨rfl, hb⟩
        go_wp2_with fail
        refine hK.out _ _ (hS.trans (hb.mono hS.size)) (fun hHeld => ?_)
        clear hK K
        try simp only [Act.put, List.setIfInBounds_toArray, List.set_cons_succ, List.set_cons_zero]
        clear hS hb
        have hS := hHeld
        clear hHeld
        refine wpAnyH_ready (rs := [4, 5]) (by kernel_rfl) (by simp) ?_
        refine' (AllReadyH.cons ?hoc4n13 (fun K hK => ?stc4n13) (AllReadyH.cons ?hoc5n13 (fun K hK => ?stc5n13) AllReadyH.nil))
        case hoc4n13 => (simp only [List.getElem?_toArray, List.getElem?_cons_succ, List.getElem?_cons_zero]; rfl)
        case hoc5n13 => (simp only [List.getElem?_toArray, List.getElem?_cons_succ, List.getElem?_cons_zero]; rfl)
        case stc4n13 =>
          go_simp
          refine hK.out _ _ (hS.alloc hS.size _) (fun hHeld => ?_)
          clear hK K
          try simp only [Act.put, List.setIfInBounds_toArray, List.set_cons_succ, List.set_cons_zero]
          have hz9 := heap_alloc_new Wn13 (.cells Z 37)
          have hb := (Below.refl Wn13.heap.size Wn13).alloc (Nat.le_refl _) (.cells Z 37)
          have hg9 := hS.size
          clear hS hb
          have hS := hHeld
          clear hHeld
          generalize Wn13.alloc (.cells Z 37) = Wn134 at *
          generalize Wn13.heap.size = g9 at *
          refine wpAnyH_ready (rs := [5]) (by kernel_rfl) (by simp) ?_
          refine' AllReadyH.cons ?hoc5n134 (fun K hK => ?stc5n134) AllReadyH.nil
          case hoc5n134 => (simp only [List.getElem?_toArray, List.getElem?_cons_succ, List.getElem?_cons_zero]; rfl)
          go_simp
          refine hK.out _ _ (hS.alloc hS.size _) (fun hHeld => ?_)
          clear hK K
          try simp only [Act.put, List.setIfInBounds_toArray, List.set_cons_succ, List.set_cons_zero]
          have hz10 := heap_alloc_new Wn134 (.cells Z 37)
          have hb := (Below.refl Wn134.heap.size Wn134).alloc (Nat.le_refl _) (.cells Z 37)
          have hg10 := hS.size
          have hne : g9 ≠ Wn134.heap.size := by have := blk_lt hz9; omega
          have hz9 := (hb.block _ (blk_lt hz9)).trans hz9
          clear hS hb
          have hS := hHeld
          clear hHeld
          generalize Wn134.alloc (.cells Z 37) = Wn1345 at *
          generalize Wn134.heap.size = g10 at *
          refine wpAnyH_ready (rs := [6]) (by kernel_rfl) (by simp) ?_
          refine' AllReadyH.cons ?hoc6n1345 (fun K hK => ?stc6n1345) AllReadyH.nil
          case hoc6n1345 => (simp only [List.getElem?_toArray, List.getElem?_cons_succ, List.getElem?_cons_zero]; rfl)
          refine step_store_row rfl 37 (.tmp 9) (.tmp 15) rfl g9 (ncells x) rfl rfl 37 _ hz9 (i47 XB.out.1) (ZL.out _ XB.out.1) (none_ _) ?_
          refine hK.out _ _ (hS.trans (below_row _ _ hg9)) (fun hHeld => ?_)
          clear hK K
          simp only [Act.put]
          have r9 := setRow_heap _ g9 _ (ncells x) _ _ hz9
          have hz10 : (Wn1345.setRow g9 (ncells x)).heap[g10]? = some (.cells Z 37 (0, 0)) := by rw [setRow_other _ _ _ _ (Ne.symm hne)]; exact hz10
          clear hS
          have hS := hHeld
          clear hHeld
          refine wpAnyH_ready (rs := [7]) (by kernel_rfl) (by simp) ?_
          refine' AllReadyH.cons ?hoc7n1345 (fun K hK => ?stc7n1345) AllReadyH.nil
          case hoc7n1345 => (simp only [List.getElem?_toArray, List.getElem?_cons_succ, List.getElem?_cons_zero]; rfl)
          refine step_store_row rfl 37 (.tmp 10) (.tmp 17) rfl g10 (ncells y) rfl rfl 37 _ hz10 (i47 YB.out.1) (ZL.out _ YB.out.1) (none_ _) ?_
          refine hK.out _ _ (hS.trans (below_row _ _ hg10)) (fun hHeld => ?_)
          clear hK K
          simp only [Act.put]
          refine wpAnyH_done (by kernel_rfl) ?_ _
          have r9 : ((Wn1345.setRow g9 (ncells x)).setRow g10 (ncells y)).heap[g9]? = some (.cells (ncells x) 37 (0, 0)) := by rw [setRow_other _ _ _ _ hne]; exact r9
          have r10 := setRow_heap _ g10 _ (ncells y) _ _ hz10
          go_wp2_with fail
          go_meet
          exact ⟨g9, g10, rfl, rfl, by omega, by omega, hne, (hHeld.block _ (blk_lt G0.out)).trans G0.out, (hHeld.block _ (blk_lt G1.out)).trans G1.out, r9, r10, HB.out.trans (hHeld.mono HB.out.size)⟩
        case stc5n13 =>
          go_simp
          refine hK.out _ _ (hS.alloc hS.size _) (fun hHeld => ?_)
          clear hK K
          try simp only [Act.put, List.setIfInBounds_toArray, List.set_cons_succ, List.set_cons_zero]
          have hz10 := heap_alloc_new Wn13 (.cells Z 37)
          have hb := (Below.refl Wn13.heap.size Wn13).alloc (Nat.le_refl _) (.cells Z 37)
          have hg10 := hS.size
          clear hS hb
          have hS := hHeld
          clear hHeld
          generalize Wn13.alloc (.cells Z 37) = Wn135 at *
          generalize Wn13.heap.size = g10 at *
          refine wpAnyH_ready (rs := [4]) (by kernel_rfl) (by simp) ?_
          refine' AllReadyH.cons ?hoc4n135 (fun K hK => ?stc4n135) AllReadyH.nil
          case hoc4n135 => (simp only [List.getElem?_toArray, List.getElem?_cons_succ, List.getElem?_cons_zero]; rfl)
          go_simp
          refine hK.out _ _ (hS.alloc hS.size _) (fun hHeld => ?_)
          clear hK K
          try simp only [Act.put, List.setIfInBounds_toArray, List.set_cons_succ, List.set_cons_zero]
          have hz9 := heap_alloc_new Wn135 (.cells Z 37)
          have hb := (Below.refl Wn135.heap.size Wn135).alloc (Nat.le_refl _) (.cells Z 37)
          have hg9 := hS.size
          have hne : Wn135.heap.size ≠ g10 := by have := blk_lt hz10; omega
          have hz10 := (hb.block _ (blk_lt hz10)).trans hz10
          clear hS hb
          have hS := hHeld
          clear hHeld
          generalize Wn135.alloc (.cells Z 37) = Wn1354 at *
          generalize Wn135.heap.size = g9 at *
          refine wpAnyH_ready (rs := [6]) (by kernel_rfl) (by simp) ?_
          refine' AllReadyH.cons ?hoc6n1354 (fun K hK => ?stc6n1354) AllReadyH.nil
          case hoc6n1354 => (simp only [List.getElem?_toArray, List.getElem?_cons_succ, List.getElem?_cons_zero]; rfl)
          refine step_store_row rfl 37 (.tmp 9) (.tmp 15) rfl g9 (ncells x) rfl rfl 37 _ hz9 (i47 XB.out.1) (ZL.out _ XB.out.1) (none_ _) ?_
          refine hK.out _ _ (hS.trans (below_row _ _ hg9)) (fun hHeld => ?_)
          clear hK K
          simp only [Act.put]
          have r9 := setRow_heap _ g9 _ (ncells x) _ _ hz9
          have hz10 : (Wn1354.setRow g9 (ncells x)).heap[g10]? = some (.cells Z 37 (0, 0)) := by rw [setRow_other _ _ _ _ (Ne.symm hne)]; exact hz10
          clear hS
          have hS := hHeld
          clear hHeld
          refine wpAnyH_ready (rs := [7]) (by kernel_rfl) (by simp) ?_
          refine' AllReadyH.cons ?hoc7n1354 (fun K hK => ?stc7n1354) AllReadyH.nil
          case hoc7n1354 => (simp only [List.getElem?_toArray, List.getElem?_cons_succ, List.getElem?_cons_zero]; rfl)
          refine step_store_row rfl 37 (.tmp 10) (.tmp 17) rfl g10 (ncells y) rfl rfl 37 _ hz10 (i47 YB.out.1) (ZL.out _ YB.out.1) (none_ _) ?_
          refine hK.out _ _ (hS.trans (below_row _ _ hg10)) (fun hHeld => ?_)
          clear hK K
          simp only [Act.put]
          refine wpAnyH_done (by kernel_rfl) ?_ _
          have r9 : ((Wn1354.setRow g9 (ncells x)).setRow g10 (ncells y)).heap[g9]? = some (.cells (ncells x) 37 (0, 0)) := by rw [setRow_other _ _ _ _ hne]; exact r9
          have r10 := setRow_heap _ g10 _ (ncells y) _ _ hz10
          go_wp2_with fail
          go_meet
          exact ⟨g9, g10, rfl, rfl, by omega, by omega, hne, (hHeld.block _ (blk_lt G0.out)).trans G0.out, (hHeld.block _ (blk_lt G1.out)).trans G1.out, r9, r10, HB.out.trans (hHeld.mono HB.out.size)⟩
      case stc4n1 =>
        go_simp
        refine hK.out _ _ (hS.alloc hS.size _) (fun hHeld => ?_)
        clear hK K
        try simp only [Act.put, List.setIfInBounds_toArray, List.set_cons_succ, List.set_cons_zero]
        have hz9 := heap_alloc_new Wn1 (.cells Z 37)
        have hb := (Below.refl Wn1.heap.size Wn1).alloc (Nat.le_refl _) (.cells Z 37)
        have hg9 := hS.size
        clear hS hb
        have hS := hHeld
        clear hHeld
        generalize Wn1.alloc (.cells Z 37) = Wn14 at *
        generalize Wn1.heap.size = g9 at *
        refine wpAnyH_ready (rs := [3, 5]) (by kernel_rfl) (by simp) ?_
        refine' (AllReadyH.cons ?hoc3n14 (fun K hK => ?stc3n14) (AllReadyH.cons ?hoc5n14 (fun K hK => ?stc5n14) AllReadyH.nil))
        case hoc3n14 => (simp only [List.getElem?_toArray, List.getElem?_cons_succ, List.getElem?_cons_zero]; rfl)
        case hoc5n14 => (simp only [List.getElem?_toArray, List.getElem?_cons_succ, List.getElem?_cons_zero]; rfl)
        case stc3n14 =>
          go_simp
          refine (D2.out _).mono ?_
          rintro e Wn143 ⟨rfl, hb⟩
          have hz9 := (hb.block _ (blk_lt hz9)).trans hz9
          go_wp2_with fail
          refine hK.out _ _ (hS.trans (hb.mono hS.size)) (fun hHeld => ?_)
          clear hK K
          try simp only [Act.put, List.setIfInBounds_toArray, List.set_cons_succ, List.set_cons_zero]
          clear hS hb
          have hS := hHeld
          clear hHeld
          refine wpAnyH_ready (rs := [5]) (by kernel_rfl) (by simp) ?_
          refine' AllReadyH.cons ?hoc5n143 (fun K hK => ?stc5n143) AllReadyH.nil
          case hoc5n143 => (simp only [List.getElem?_toArray, List.getElem?_cons_succ, List.getElem?_cons_zero]; rfl)
          go_simp
          refine hK.out _ _ (hS.alloc hS.size _) (fun hHeld => ?_)
          clear hK K
          try simp only [Act.put, List.setIfInBounds_toArray, List.set_cons_succ, List.set_cons_zero]
          have hz10 := heap_alloc_new Wn143 (.cells Z 37)
          have hb := (Below.refl Wn143.heap.size Wn143).alloc (Nat.le_refl _) (.cells Z 37)
          have hg10 := hS.size
          have hne : g9 ≠ Wn143.heap.size := by have := blk_lt hz9; omega
          have hz9 := (hb.block _ (blk_lt hz9)).trans hz9
          clear hS hb
          have hS := hHeld
          clear hHeld
          generalize Wn143.alloc (.cells Z 37) = Wn1435 at *
          generalize Wn143.heap.size = g10 at *
          refine wpAnyH_ready (rs := [6]) (by kernel_rfl) (by simp) ?_
          refine' AllReadyH.cons ?hoc6n1435 (fun K hK => ?stc6n1435) AllReadyH.nil
          case hoc6n1435 => (simp only [List.getElem?_toArray, List.getElem?_cons_succ, List.getElem?_cons_zero]; rfl)
          refine step_store_row rfl 37 (.tmp 9) (.tmp 15) rfl g9 (ncells x) rfl rfl 37 _ hz9 (i47 XB.out.1) (ZL.out _ XB.out.1) (none_ _) ?_
          refine hK.out _ _ (hS.trans (below_row _ _ hg9)) (fun hHeld => ?_)
          clear hK K
          simp only [Act.put]
          have r9 := setRow_heap _ g9 _ (ncells x) _ _ hz9
          have hz10 : (Wn1435.setRow g9 (ncells x)).heap[g10]? = some (.cells Z 37 (0, 0)) := by rw [setRow_other _ _ _ _ (Ne.symm hne)]; exact hz10
          clear hS
          have hS := hHeld
          clear hHeld
          refine wpAnyH_ready (rs := [7]) (by kernel_rfl) (by simp) ?_
          refine' AllReadyH.cons ?hoc7n1435 (fun K hK => ?stc7n1435) AllReadyH.nil
          case hoc7n1435 => (simp only [List.getElem?_toArray, List.getElem?_cons_succ, List.getElem?_cons_zero]; rfl)
          refine step_store_row rfl 37 (.tmp 10) (.tmp 17) rfl g10 (ncells y) rfl rfl 37 _ hz10 (i47 YB.out.1) (ZL.out _ YB.out.1) (none_ _) ?_
          refine hK.out _ _ (hS.trans (below_row _ _ hg10)) (fun hHeld => ?_)
          clear hK K
          simp only [Act.put]
          refine wpAnyH_done (by kernel_rfl) ?_ _
          have r9 : ((Wn1435.setRow g9 (ncells x)).setRow g10 (ncells y)).heap[g9]? = some (.cells (ncells x) 37 (0, 0)) := by rw [setRow_other _ _ _ _ hne]; exact r9
          have r10 := setRow_heap _ g10 _ (ncells y) _ _ hz10
          go_wp2_with fail
          go_meet
          exact ⟨g9, g10, rfl, rfl, by omega, by omega, hne, (hHeld.block _ (blk_lt G0.out)).trans G0.out, (hHeld.block _ (blk_lt G1.out)).trans G1.out, r9, r10, HB.out.trans (hHeld.mono HB.out.size)⟩
        case stc5n14 =>
          go_simp
          refine hK.out _ _ (hS.alloc hS.size _) (fun hHeld => ?_)
          clear hK K
          try simp only [Act.put, List.setIfInBounds_toArray, List.set_cons_succ, List.set_cons_zero]
          have hz10 := heap_alloc_new Wn14 (.cells Z 37)
          have hb := (Below.refl Wn14.heap.size Wn14).alloc (Nat.le_refl _) (.cells Z 37)
          have hg10 := hS.size
          have hne : g9 ≠ Wn14.heap.size := by have := blk_lt hz9; omega
          have hz9 := (hb.block _ (blk_lt hz9)).trans hz9
          clear hS hb
          have hS := hHeld
          clear hHeld
          generalize Wn14.alloc (.cells Z 37) = Wn145 at *
          generalize Wn14.heap.size = g10 at *
          refine wpAnyH_ready (rs := [3]) (by kernel_rfl) (by simp) ?_
          refine' AllReadyH.cons ?hoc3n145 (fun K hK => ?stc3n145) AllReadyH.nil
          case hoc3n145 => (simp only [List.getElem?_toArray, List.getElem?_cons_succ, List.getElem?_cons_zero]; rfl)
          go_simp
          refine (D2.out _).mono ?_
          rintro e Wn1453 ⟨rfl, hb⟩
          have hz9 := (hb.block _ (blk_lt hz9)).trans hz9
          have hz10 := (hb.block _ (blk_lt hz10)).trans hz10
          go_wp2_with fail
          refine hK.out _ _ (hS.trans (hb.mono hS.size)) (fun hHeld => ?_)
          clear hK K
          try simp only [Act.put, List.setIfInBounds_toArray, List.set_cons_succ, List.set_cons_zero]
          clear hS hb
          have hS := hHeld
          clear hHeld
          refine wpAnyH_ready (rs := [6]) (by kernel_rfl) (by simp) ?_
          refine' AllReadyH.cons ?hoc6n1453 (fun K hK => ?stc6n1453) AllReadyH.nil
          case hoc6n1453 => (simp only [List.getElem?_toArray, List.getElem?_cons_succ, List.getElem?_cons_zero]; rfl)
          refine step_store_row rfl 37 (.tmp 9) (.tmp 15) rfl g9 (ncells x) rfl rfl 37 _ hz9 (i47 XB.out.1) (ZL.out _ XB.out.1) (none_ _) ?_
          refine hK.out _ _ (hS.trans (below_row _ _ hg9)) (fun hHeld => ?_)
          clear hK K
          simp only [Act.put]
          have r9 := setRow_heap _ g9 _ (ncells x) _ _ hz9
          have hz10 : (Wn1453.setRow g9 (ncells x)).heap[g10]? = some (.cells Z 37 (0, 0)) := by rw [setRow_other _ _ _ _ (Ne.symm hne)]; exact hz10
          clear hS
          have hS := hHeld
          clear hHeld
          refine wpAnyH_ready (rs := [7]) (by kernel_rfl) (by simp) ?_
          refine' AllReadyH.cons ?hoc7n1453 (fun K hK => ?stc7n1453) AllReadyH.nil
          case hoc7n1453 => (simp only [List.getElem?_toArray, List.getElem?_cons_succ, List.getElem?_cons_zero]; rfl)
          refine step_store_row rfl 37 (.tmp 10) (.tmp 17) rfl g10 (ncells y) rfl rfl 37 _ hz10 (i47 YB.out.1) (ZL.out _ YB.out.1) (none_ _) ?_
          refine hK.out _ _ (hS.trans (below_row _ _ hg10)) (fun hHeld => ?_)
          clear hK K
          simp only [Act.put]
          refine wpAnyH_done (by kernel_rfl) ?_ _
          have r9 : ((Wn1453.setRow g9 (ncells x)).setRow g10 (ncells y)).heap[g9]? = some (.cells (ncells x) 37 (0, 0)) := by rw [setRow_other _ _ _ _ hne]; exact r9
          have r10 := setRow_heap _ g10 _ (ncells y) _ _ hz10
          go_wp2_with fail
          go_meet
          exact ⟨g9, g10, rfl, rfl, by omega, by omega, hne, (hHeld.block _ (blk_lt G0.out)).trans G0.out, (hHeld.block _ (blk_lt G1.out)).trans G1.out, r9, r10, HB.out.trans (hHeld.mono HB.out.size)⟩
      case stc5n1 =>
        go_simp
        refine hK.out _ _ (hS.alloc hS.size _) (fun hHeld => ?_)
        clear hK K
        try simp only [Act.put, List.setIfInBounds_toArray, List.set_cons_succ, List.set_cons_zero]
        have hz10 := heap_alloc_new Wn1 (.cells Z 37)
        have hb := (Below.refl Wn1.heap.size Wn1).alloc (Nat.le_refl _) (.cells Z 37)
        have hg10 := hS.size
        clear hS hb
        have hS := hHeld
        clear hHeld
        generalize Wn1.alloc (.cells Z 37) = Wn15 at *
        generalize Wn1.heap.size = g10 at *
        refine wpAnyH_ready (rs := [3, 4]) (by kernel_rfl) (by simp) ?_
        refine' (AllReadyH.cons ?hoc3n15 (fun K hK => ?stc3n15) (AllReadyH.cons ?hoc4n15 (fun K hK => ?stc4n15) AllReadyH.nil))
        case hoc3n15 => (simp only [List.getElem?_toArray, List.getElem?_cons_succ, List.getElem?_cons_zero]; rfl)
        case hoc4n15 => (simp only [List.getElem?_toArray, List.getElem?_cons_succ, List.getElem?_cons_zero]; rfl)
        case stc3n15 =>
          go_simp
          refine (D2.out _).mono ?_
          rintro e Wn153 ⟨rfl, hb⟩
          have hz10 := (hb.block _ (blk_lt hz10)).trans hz10
          go_wp2_with fail
          refine hK.out _ _ (hS.trans (hb.mono hS.size)) (fun hHeld => ?_)
          clear hK K
          try simp only [Act.put, List.setIfInBounds_toArray, List.set_cons_succ, List.set_cons_zero]
          clear hS hb
          have hS := hHeld
          clear hHeld
          refine wpAnyH_ready (rs := [4]) (by kernel_rfl) (by simp) ?_
          refine' AllReadyH.cons ?hoc4n153 (fun K hK => ?stc4n153) AllReadyH.nil
          case hoc4n153 => (simp only [List.getElem?_toArray, List.getElem?_cons_succ, List.getElem?_cons_zero]; rfl)
          go_simp
          refine hK.out _ _ (hS.alloc hS.size _) (fun hHeld => ?_)
          clear hK K
          try simp only [Act.put, List.setIfInBounds_toArray, List.set_cons_succ, List.set_cons_zero]
          have hz9 := heap_alloc_new Wn153 (.cells Z 37)
          have hb := (Below.refl Wn153.heap.size Wn153).alloc (Nat.le_refl _) (.cells Z 37)
          have hg9 := hS.size
          have hne : Wn153.heap.size ≠ g10 := by have := blk_lt hz10; omega
          have hz10 := (hb.block _ (blk_lt hz10)).trans hz10
          clear hS hb
          have hS := hHeld
          clear hHeld
          generalize Wn153.alloc (.cells Z 37) = Wn1534 at *
          generalize Wn153.heap.size = g9 at *
          refine wpAnyH_ready (rs := [6]) (by kernel_rfl) (by simp) ?_
          refine' AllReadyH.cons ?hoc6n1534 (fun K hK => ?stc6n1534) AllReadyH.nil
          case hoc6n1534 => (simp only [List.getElem?_toArray, List.getElem?_cons_succ, List.getElem?_cons_zero]; rfl)
          refine step_store_row rfl 37 (.tmp 9) (.tmp 15) rfl g9 (ncells x) rfl rfl 37 _ hz9 (i47 XB.out.1) (ZL.out _ XB.out.1) (none_ _) ?_
          refine hK.out _ _ (hS.trans (below_row _ _ hg9)) (fun hHeld => ?_)
          clear hK K
          simp only [Act.put]
          have r9 := setRow_heap _ g9 _ (ncells x) _ _ hz9
          have hz10 : (Wn1534.setRow g9 (ncells x)).heap[g10]? = some (.cells Z 37 (0, 0)) := by rw [setRow_other _ _ _ _ (Ne.symm hne)]; exact hz10
          clear hS
          have hS := hHeld
          clear hHeld
          refine wpAnyH_ready (rs := [7]) (by kernel_rfl) (by simp) ?_
          refine' AllReadyH.cons ?hoc7n1534 (fun K hK => ?stc7n1534) AllReadyH.nil
          case hoc7n1534 => (simp only [List.getElem?_toArray, List.getElem?_cons_succ, List.getElem?_cons_zero]; rfl)
          refine step_store_row rfl 37 (.tmp 10) (.tmp 17) rfl g10 (ncells y) rfl rfl 37 _ hz10 (i47 YB.out.1) (ZL.out _ YB.out.1) (none_ _) ?_
          refine hK.out _ _ (hS.trans (below_row _ _ hg10)) (fun hHeld => ?_)
          clear hK K
          simp only [Act.put]
          refine wpAnyH_done (by kernel_rfl) ?_ _
          have r9 : ((Wn1534.setRow g9 (ncells x)).setRow g10 (ncells y)).heap[g9]? = some (.cells (ncells x) 37 (0, 0)) := by rw [setRow_other _ _ _ _ hne]; exact r9
          have r10 := setRow_heap _ g10 _ (ncells y) _ _ hz10
          go_wp2_with fail
          go_meet
          exact ⟨g9, g10, rfl, rfl, by omega, by omega, hne, (hHeld.block _ (blk_lt G0.out)).trans G0.out, (hHeld.block _ (blk_lt G1.out)).trans G1.out, r9, r10, HB.out.trans (hHeld.mono HB.out.size)⟩
        case stc4n15 =>
          go_simp
          refine hK.out _ _ (hS.alloc hS.size _) (fun hHeld => ?_)
          clear hK K
          try simp only [Act.put, List.setIfInBounds_toArray, List.set_cons_succ, List.set_cons_zero]
          have hz9 := heap_alloc_new Wn15 (.cells Z 37)
          have hb := (Below.refl Wn15.heap.size Wn15).alloc (Nat.le_refl _) (.cells Z 37)
          have hg9 := hS.size
          have hne : Wn15.heap.size ≠ g10 := by have := blk_lt hz10; omega
          have hz10 := (hb.block _ (blk_lt hz10)).trans hz10
          clear hS hb
          have hS := hHeld
          clear hHeld
          generalize Wn15.alloc (.cells Z 37) = Wn154 at *
          generalize Wn15.heap.size = g9 at *
          refine wpAnyH_ready (rs := [3]) (by kernel_rfl) (by simp) ?_
          refine' AllReadyH.cons ?hoc3n154 (fun K hK => ?stc3n154) AllReadyH.nil
          case hoc3n154 => (simp only [List.getElem?_toArray, List.getElem?_cons_succ, List.getElem?_cons_zero]; rfl)
          go_simp
          refine (D2.out _).mono ?_
          rintro e Wn1543 ⟨rfl, hb⟩
          have hz10 := (hb.block _ (blk_lt hz10)).trans hz10
          have hz9 := (hb.block _ (blk_lt hz9)).trans hz9
          go_wp2_with fail
          refine hK.out _ _ (hS.trans (hb.mono hS.size)) (fun hHeld => ?_)
          clear hK K
          try simp only [Act.put, List.setIfInBounds_toArray, List.set_cons_succ, List.set_cons_zero]
          clear hS hb
          have hS := hHeld
          clear hHeld
          refine wpAnyH_ready (rs := [6]) (by kernel_rfl) (by simp) ?_
          refine' AllReadyH.cons ?hoc6n1543 (fun K hK => ?stc6n1543) AllReadyH.nil
          case hoc6n1543 => (simp only [List.getElem?_toArray, List.getElem?_cons_succ, List.getElem?_cons_zero]; rfl)
          refine step_store_row rfl 37 (.tmp 9) (.tmp 15) rfl g9 (ncells x) rfl rfl 37 _ hz9 (i47 XB.out.1) (ZL.out _ XB.out.1) (none_ _) ?_
          refine hK.out _ _ (hS.trans (below_row _ _ hg9)) (fun hHeld => ?_)
          clear hK K
          simp only [Act.put]
          have r9 := setRow_heap _ g9 _ (ncells x) _ _ hz9
          have hz10 : (Wn1543.setRow g9 (ncells x)).heap[g10]? = some (.cells Z 37 (0, 0)) := by rw [setRow_other _ _ _ _ (Ne.symm hne)]; exact hz10
          clear hS
          have hS := hHeld
          clear hHeld
          refine wpAnyH_ready (rs := [7]) (by kernel_rfl) (by simp) ?_
          refine' AllReadyH.cons ?hoc7n1543 (fun K hK => ?stc7n1543) AllReadyH.nil
          case hoc7n1543 => (simp only [List.getElem?_toArray, List.getElem?_cons_succ, List.getElem?_cons_zero]; rfl)
          refine step_store_row rfl 37 (.tmp 10) (.tmp 17) rfl g10 (ncells y) rfl rfl 37 _ hz10 (i47 YB.out.1) (ZL.out _ YB.out.1) (none_ _) ?_
          refine hK.out _ _ (hS.trans (below_row _ _ hg10)) (fun hHeld => ?_)
          clear hK K
          simp only [Act.put]
          refine wpAnyH_done (by kernel_rfl) ?_ _
          have r9 : ((Wn1543.setRow g9 (ncells x)).setRow g10 (ncells y)).heap[g9]? = some (.cells (ncells x) 37 (0, 0)) := by rw [setRow_other _ _ _ _ hne]; exact r9
          have r10 := setRow_heap _ g10 _ (ncells y) _ _ hz10
          go_wp2_with fail
          go_meet
          exact ⟨g9, g10, rfl, rfl, by omega, by omega, hne, (hHeld.block _ (blk_lt G0.out)).trans G0.out, (hHeld.block _ (blk_lt G1.out)).trans G1.out, r9, r10, HB.out.trans (hHeld.mono HB.out.size)⟩
    case stc4n =>
      go_simp
      refine hK.out _ _ (hS.alloc hS.size _) (fun hHeld => ?_)
      clear hK K
      try simp only [Act.put, List.setIfInBounds_toArray, List.set_cons_succ, List.set_cons_zero]
      have hz9 := heap_alloc_new Wd (.cells Z 37)
      have hb := (Below.refl Wd.heap.size Wd).alloc (Nat.le_refl _) (.cells Z 37)
      have hg9 := hS.size
      clear hS hb
      have hS := hHeld
      clear hHeld
      generalize Wd.alloc (.cells Z 37) = Wn4 at *
      generalize Wd.heap.size = g9 at *
      refine wpAnyH_ready (rs := [1, 5]) (by kernel_rfl) (by simp) ?_
      refine' (AllReadyH.cons ?hoc1n4 (fun K hK => ?stc1n4) (AllReadyH.cons ?hoc5n4 (fun K hK => ?stc5n4) AllReadyH.nil))
      case hoc1n4 => (simp only [List.getElem?_toArray, List.getElem?_cons_succ, List.getElem?_cons_zero]; rfl)
      case hoc5n4 => (simp only [List.getElem?_toArray, List.getElem?_cons_succ, List.getElem?_cons_zero]; rfl)
      case stc1n4 =>
        go_simp
        refine (D1.out _).mono ?_
        rintro e Wn41 ⟨rfl, hb⟩
        have hz9 := (hb.block _ (blk_lt hz9)).trans hz9
        go_wp2_with fail
        refine hK.out _ _ (hS.trans (hb.mono hS.size)) (fun hHeld => ?_)
        clear hK K
        try simp only [Act.put, List.setIfInBounds_toArray, List.set_cons_succ, List.set_cons_zero]
        clear hS hb
        have hS := hHeld
        clear hHeld
        refine wpAnyH_ready (rs := [3, 5]) (by kernel_rfl) (by simp) ?_
        refine' (AllReadyH.cons ?hoc3n41 (fun K hK => ?stc3n41) (AllReadyH.cons ?hoc5n41 (fun K hK => ?stc5n41) AllReadyH.nil))
        case hoc3n41 => (simp only [List.getElem?_toArray, List.getElem?_cons_succ, List.getElem?_cons_zero]; rfl)
        case hoc5n41 => (simp only [List.getElem?_toArray, List.getElem?_cons_succ, List.getElem?_cons_zero]; rfl)
        case stc3n41 =>
          go_simp
          refine (D2.out _).mono ?_
          rintro e Wn413 ⟨rfl, hb⟩
          have hz9 := (hb.block _ (blk_lt hz9)).trans hz9
          go_wp2_with fail
          refine hK.out _ _ (hS.trans (hb.mono hS.size)) (fun hHeld => ?_)
          clear hK K
          try simp only [Act.put, List.setIfInBounds_toArray, List.set_cons_succ, List.set_cons_zero]
          clear hS hb
          have hS := hHeld
          clear hHeld
          refine wpAnyH_ready (rs := [5]) (by kernel_rfl) (by simp) ?_
          refine' AllReadyH.cons ?hoc5n413 (fun K hK => ?stc5n413) AllReadyH.nil
          case hoc5n413 => (simp only [List.getElem?_toArray, List.getElem?_cons_succ, List.getElem?_cons_zero]; rfl)
          go_simp
          refine hK.out _ _ (hS.alloc hS.size _) (fun hHeld => ?_)
          clear hK K
          try simp only [Act.put, List.setIfInBounds_toArray, List.set_cons_succ, List.set_cons_zero]
          have hz10 := heap_alloc_new Wn413 (.cells Z 37)
          have hb := (Below.refl Wn413.heap.size Wn413).alloc (Nat.le_refl _) (.cells Z 37)
          have hg10 := hS.size
          have hne : g9 ≠ Wn413.heap.size := by have := blk_lt hz9; omega
          have hz9 := (hb.block _ (blk_lt hz9)).trans hz9
          clear hS hb
          have hS := hHeld
          clear hHeld
          generalize Wn413.alloc (.cells Z 37) = Wn4135 at *
          generalize Wn413.heap.size = g10 at *
          refine wpAnyH_ready (rs := [6]) (by kernel_rfl) (by simp) ?_
          refine' AllReadyH.cons ?hoc6n4135 (fun K hK => ?stc6n4135) AllReadyH.nil
          case hoc6n4135 => (simp only [List.getElem?_toArray, List.getElem?_cons_succ, List.getElem?_cons_zero]; rfl)
          refine step_store_row rfl 37 (.tmp 9) (.tmp 15) rfl g9 (ncells x) rfl rfl 37 _ hz9 (i47 XB.out.1) (ZL.out _ XB.out.1) (none_ _) ?_
          refine hK.out _ _ (hS.trans (below_row _ _ hg9)) (fun hHeld => ?_)
          clear hK K
          simp only [Act.put]
          have r9 := setRow_heap _ g9 _ (ncells x) _ _ hz9
          have hz10 : (Wn4135.setRow g9 (ncells x)).heap[g10]? = some (.cells Z 37 (0, 0)) := by rw [setRow_other _ _ _ _ (Ne.symm hne)]; exact hz10
          clear hS
          have hS := hHeld
          clear hHeld
          refine wpAnyH_ready (rs := [7]) (by kernel_rfl) (by simp) ?_
          refine' AllReadyH.cons ?hoc7n4135 (fun K hK => ?stc7n4135) AllReadyH.nil
          case hoc7n4135 => (simp only [List.getElem?_toArray, List.getElem?_cons_succ, List.getElem?_cons_zero]; rfl)
          refine step_store_row rfl 37 (.tmp 10) (.tmp 17) rfl g10 (ncells y) rfl rfl 37 _ hz10 (i47 YB.out.1) (ZL.out _ YB.out.1) (none_ _) ?_
          refine hK.out _ _ (hS.trans (below_row _ _ hg10)) (fun hHeld => ?_)
          clear hK K
          simp only [Act.put]
          refine wpAnyH_done (by kernel_rfl) ?_ _
          have r9 : ((Wn4135.setRow g9 (ncells x)).setRow g10 (ncells y)).heap[g9]? = some (.cells (ncells x) 37 (0, 0)) := by rw [setRow_other _ _ _ _ hne]; exact r9
          have r10 := setRow_heap _ g10 _ (ncells y) _ _ hz10
          go_wp2_with fail
          go_meet
          exact ⟨g9, g10, rfl, rfl, by omega, by omega, hne, (hHeld.block _ (blk_lt G0.out)).trans G0.out, (hHeld.block _ (blk_lt G1.out)).trans G1.out, r9, r10, HB.out.trans (hHeld.mono HB.out.size)⟩
        case stc5n41 =>
          go_simp
          refine hK.out _ _ (hS.alloc hS.size _) (fun hHeld => ?_)
          clear hK K
          try simp only [Act.put, List.setIfInBounds_toArray, List.set_cons_succ, List.set_cons_zero]
          have hz10 := heap_alloc_new Wn41 (.cells Z 37)
          have hb := (Below.refl Wn41.heap.size Wn41).alloc (Nat.le_refl _) (.cells Z 37)
          have hg10 := hS.size
          have hne : g9 ≠ Wn41.heap.size := by have := blk_lt hz9; omega
          have hz9 := (hb.block _ (blk_lt hz9)).trans hz9
          clear hS hb
          have hS := hHeld
          clear hHeld
          generalize Wn41.alloc (.cells Z 37) = Wn415 at *
          generalize Wn41.heap.size = g10 at *
          refine wpAnyH_ready (rs := [3]) (by kernel_rfl) (by simp) ?_
          refine' AllReadyH.cons ?hoc3n415 (fun K hK => ?stc3n415) AllReadyH.nil
          case hoc3n415 => (simp only [List.getElem?_toArray, List.getElem?_cons_succ, List.getElem?_cons_zero]; rfl)
          go_simp
          refine (D2.out _).mono ?_
          rintro e Wn4153 ⟨rfl, hb⟩
          have hz9 := (hb.block _ (blk_lt hz9)).trans hz9
          have hz10 := (hb.block _ (blk_lt hz10)).trans hz10
          go_wp2_with fail
          refine hK.out _ _ (hS.trans (hb.mono hS.size)) (fun hHeld => ?_)
          clear hK K
          try simp only [Act.put, List.setIfInBounds_toArray, List.set_cons_succ, List.set_cons_zero]
          clear hS hb
          have hS := hHeld
          clear hHeld
          refine wpAnyH_ready (rs := [6]) (by kernel_rfl) (by simp) ?_
          refine' AllReadyH.cons ?hoc6n4153 (fun K hK => ?stc6n4153) AllReadyH.nil
          case hoc6n4153 => (simp only [List.getElem?_toArray, List.getElem?_cons_succ, List.getElem?_cons_zero]; rfl)
          refine step_store_row rfl 37 (.tmp 9) (.tmp 15) rfl g9 (ncells x) rfl rfl 37 _ hz9 (i47 XB.out.1) (ZL.out _ XB.out.1) (none_ _) ?_
          refine hK.out _ _ (hS.trans (below_row _ _ hg9)) (fun hHeld => ?_)
          clear hK K
          simp only [Act.put]
          have r9 := setRow_heap _ g9 _ (ncells x) _ _ hz9
          have hz10 : (Wn4153.setRow g9 (ncells x)).heap[g10]? = some (.cells Z 37 (0, 0)) := by rw [setRow_other _ _ _ _ (Ne.symm hne)]; exact hz10
          clear hS
          have hS := hHeld
          clear hHeld
          refine wpAnyH_ready (rs := [7]) (by kernel_rfl) (by simp) ?_
          refine' AllReadyH.cons ?hoc7n4153 (fun K hK => ?stc7n4153) AllReadyH.nil
          case hoc7n4153 => (simp only [List.getElem?_toArray, List.getElem?_cons_succ, List.getElem?_cons_zero]; rfl)
          refine step_store_row rfl 37 (.tmp 10) (.tmp 17) rfl g10 (ncells y) rfl rfl 37 _ hz10 (i47 YB.out.1) (ZL.out _ YB.out.1) (none_ _) ?_
          refine hK.out _ _ (hS.trans (below_row _ _ hg10)) (fun hHeld => ?_)
          clear hK K
          simp only [Act.put]
          refine wpAnyH_done (by kernel_rfl) ?_ _
          have r9 : ((Wn4153.setRow g9 (ncells x)).setRow g10 (ncells y)).heap[g9]? = some (.cells (ncells x) 37 (0, 0)) := by rw [setRow_other _ _ _ _ hne]; exact r9
          have r10 := setRow_heap _ g10 _ (ncells y) _ _ hz10
          go_wp2_with fail
          go_meet
          exact ⟨g9, g10, rfl, rfl, by omega, by omega, hne, (hHeld.block _ (blk_lt G0.out)).trans G0.out, (hHeld.block _ (blk_lt G1.out)).trans G1.out, r9, r10, HB.out.trans (hHeld.mono HB.out.size)⟩
      case stc5n4 =>
        go_simp
        refine hK.out _ _ (hS.alloc hS.size _) (fun hHeld => ?_)
        clear hK K
        try simp only [Act.put, List.setIfInBounds_toArray, List.set_cons_succ, List.set_cons_zero]
        have hz10 := heap_alloc_new Wn4 (.cells Z 37)
        have hb := (Below.refl Wn4.heap.size Wn4).alloc (Nat.le_refl _) (.cells Z 37)
        have hg10 := hS.size
        have hne : g9 ≠ Wn4.heap.size := by have := blk_lt hz9; omega
        have hz9 := (hb.block _ (blk_lt hz9)).trans hz9
        clear hS hb
        have hS := hHeld
        clear hHeld
        generalize Wn4.alloc (.cells Z 37) = Wn45 at *
        generalize Wn4.heap.size = g10 at *
        refine wpAnyH_ready (rs := [1]) (by kernel_rfl) (by simp) ?_
        refine' AllReadyH.cons ?hoc1n45 (fun K hK => ?stc1n45) AllReadyH.nil
        case hoc1n45 => (simp only [List.getElem?_toArray, List.getElem?_cons_succ, List.getElem?_cons_zero]; rfl)
        go_simp
        refine (D1.out _).mono ?_
        rintro e Wn451 ⟨rfl, hb⟩
        have hz9 := (hb.block _ (blk_lt hz9)).trans hz9
        have hz10 := (hb.block _ (blk_lt hz10)).trans hz10
        go_wp2_with fail
        refine hK.out _ _ (hS.trans (hb.mono hS.size)) (fun hHeld => ?_)
        clear hK K
        try simp only [Act.put, List.setIfInBounds_toArray, List.set_cons_succ, List.set_cons_zero]
        clear hS hb
        have hS := hHeld
        clear hHeld
        refine wpAnyH_ready (rs := [3]) (by kernel_rfl) (by simp) ?_
        refine' AllReadyH.cons ?hoc3n451 (fun K hK => ?stc3n451) AllReadyH.nil
        case hoc3n451 => (simp only [List.getElem?_toArray, List.getElem?_cons_succ, List.getElem?_cons_zero]; rfl)
        go_simp
        refine (D2.out _).mono ?_
        rintro e Wn4513 ⟨rfl, hb⟩
        have hz9 := (hb.block _ (blk_lt hz9)).trans hz9
        have hz10 := (hb.block _ (blk_lt hz10)).trans hz10
        go_wp2_with fail
        refine hK.out _ _ (hS.trans (hb.mono hS.size)) (fun hHeld => ?_)
        clear hK K
        try simp only [Act.put, List.setIfInBounds_toArray, List.set_cons_succ, List.set_cons_zero]
        clear hS hb
        have hS := hHeld
        clear hHeld
        refine wpAnyH_ready (rs := [6]) (by kernel_rfl) (by simp) ?_
        refine' AllReadyH.cons ?hoc6n4513 (fun K hK => ?stc6n4513) AllReadyH.nil
        case hoc6n4513 => (simp only [List.getElem?_toArray, List.getElem?_cons_succ, List.getElem?_cons_zero]; rfl)
        refine step_store_row rfl 37 (.tmp 9) (.tmp 15) rfl g9 (ncells x) rfl rfl 37 _ hz9 (i47 XB.out.1) (ZL.out _ XB.out.1) (none_ _) ?_
        refine hK.out _ _ (hS.trans (below_row _ _ hg9)) (fun hHeld => ?_)
        clear hK K
        simp only [Act.put]
        have r9 := setRow_heap _ g9 _ (ncells x) _ _ hz9
        have hz10 : (Wn4513.setRow g9 (ncells x)).heap[g10]? = some (.cells Z 37 (0, 0)) := by rw [setRow_other _ _ _ _ (Ne.symm hne)]; exact hz10
        clear hS
        have hS := hHeld
        clear hHeld
        refine wpAnyH_ready (rs := [7]) (by kernel_rfl) (by simp) ?_
        refine' AllReadyH.cons ?hoc7n4513 (fun K hK => ?stc7n4513) AllReadyH.nil
        case hoc7n4513 => (simp only [List.getElem?_toArray, List.getElem?_cons_succ, List.getElem?_cons_zero]; rfl)
        refine step_store_row rfl 37 (.tmp 10) (.tmp 17) rfl g10 (ncells y) rfl rfl 37 _ hz10 (i47 YB.out.1) (ZL.out _ YB.out.1) (none_ _) ?_
        refine hK.out _ _ (hS.trans (below_row _ _ hg10)) (fun hHeld => ?_)
        clear hK K
        simp only [Act.put]
        refine wpAnyH_done (by kernel_rfl) ?_ _
        have r9 : ((Wn4513.setRow g9 (ncells x)).setRow g10 (ncells y)).heap[g9]? = some (.cells (ncells x) 37 (0, 0)) := by rw [setRow_other _ _ _ _ hne]; exact r9
        have r10 := setRow_heap _ g10 _ (ncells y) _ _ hz10
        go_wp2_with fail
        go_meet
        exact ⟨g9, g10, rfl, rfl, by omega, by omega, hne, (hHeld.block _ (blk_lt G0.out)).trans G0.out, (hHeld.block _ (blk_lt G1.out)).trans G1.out, r9, r10, HB.out.trans (hHeld.mono HB.out.size)⟩
    case stc5n =>
      go_simp
      refine hK.out _ _ (hS.alloc hS.size _) (fun hHeld => ?_)
      clear hK K
      try simp only [Act.put, List.setIfInBounds_toArray, List.set_cons_succ, List.set_cons_zero]
      have hz10 := heap_alloc_new Wd (.cells Z 37)
      have hb := (Below.refl Wd.heap.size Wd).alloc (Nat.le_refl _) (.cells Z 37)
      have hg10 := hS.size
      clear hS hb
      have hS := hHeld
      clear hHeld
      generalize Wd.alloc (.cells Z 37) = Wn5 at *
      generalize Wd.heap.size = g10 at *
      refine wpAnyH_ready (rs := [1, 4]) (by kernel_rfl) (by simp) ?_
      refine' (AllReadyH.cons ?hoc1n5 (fun K hK => ?stc1n5) (AllReadyH.cons ?hoc4n5 (fun K hK => ?stc4n5) AllReadyH.nil))
      case hoc1n5 => (simp only [List.getElem?_toArray, List.getElem?_cons_succ, List.getElem?_cons_zero]; rfl)
      case hoc4n5 => (simp only [List.getElem?_toArray, List.getElem?_cons_succ, List.getElem?_cons_zero]; rfl)
      case stc1n5 =>
        go_simp
        refine (D1.out _).mono ?_
        rintro e Wn51 ⟨rfl, hb⟩
        have hz10 := (hb.block _ (blk_lt hz10)).trans hz10
        go_wp2_with fail
        refine hK.out _ _ (hS.trans (hb.mono hS.size)) (fun hHeld => ?_)
        clear hK K
        try simp only [Act.put, List.setIfInBounds_toArray, List.set_cons_succ, List.set_cons_zero]
        clear hS hb
        have hS := hHeld
        clear hHeld
        refine wpAnyH_ready (rs := [3, 4]) (by kernel_rfl) (by simp) ?_
        refine' (AllReadyH.cons ?hoc3n51 (fun K hK => ?stc3n51) (AllReadyH.cons ?hoc4n51 (fun K hK => ?stc4n51) AllReadyH.nil))
        case hoc3n51 => (simp only [List.getElem?_toArray, List.getElem?_cons_succ, List.getElem?_cons_zero]; rfl)
        case hoc4n51 => (simp only [List.getElem?_toArray, List.getElem?_cons_succ, List.getElem?_cons_zero]; rfl)
        case stc3n51 =>
          go_simp
          refine (D2.out _).mono ?_
          rintro e Wn513 ⟨rfl, hb⟩
          have hz10 := (hb.block _ (blk_lt hz10)).trans hz10
          go_wp2_with fail
          refine hK.out _ _ (hS.trans (hb.mono hS.size)) (fun hHeld => ?_)
          clear hK K
          try simp only [Act.put, List.setIfInBounds_toArray, List.set_cons_succ, List.set_cons_zero]
          clear hS hb
          have hS := hHeld
          clear hHeld
          refine wpAnyH_ready (rs := [4]) (by kernel_rfl) (by simp) ?_
          refine' AllReadyH.cons ?hoc4n513 (fun K hK => ?stc4n513) AllReadyH.nil
          case hoc4n513 => (simp only [List.getElem?_toArray, List.getElem?_cons_succ, List.getElem?_cons_zero]; rfl)
          go_simp
          refine hK.out _ _ (hS.alloc hS.size _) (fun hHeld => ?_)
          clear hK K
          try simp only [Act.put, List.setIfInBounds_toArray, List.set_cons_succ, List.set_cons_zero]
          have hz9 := heap_alloc_new Wn513 (.cells Z 37)
          have hb := (Below.refl Wn513.heap.size Wn513).alloc (Nat.le_refl _) (.cells Z 37)
          have hg9 := hS.size
          have hne : Wn513.heap.size ≠ g10 := by have := blk_lt hz10; omega
          have hz10 := (hb.block _ (blk_lt hz10)).trans hz10
          clear hS hb
          have hS := hHeld
          clear hHeld
          generalize Wn513.alloc (.cells Z 37) = Wn5134 at *
          generalize Wn513.heap.size = g9 at *
          refine wpAnyH_ready (rs := [6]) (by kernel_rfl) (by simp) ?_
          refine' AllReadyH.cons ?hoc6n5134 (fun K hK => ?stc6n5134) AllReadyH.nil
          case hoc6n5134 => (simp only [List.getElem?_toArray, List.getElem?_cons_succ, List.getElem?_cons_zero]; rfl)
          refine step_store_row rfl 37 (.tmp 9) (.tmp 15) rfl g9 (ncells x) rfl rfl 37 _ hz9 (i47 XB.out.1) (ZL.out _ XB.out.1) (none_ _) ?_
          refine hK.out _ _ (hS.trans (below_row _ _ hg9)) (fun hHeld => ?_)
          clear hK K
          simp only [Act.put]
          have r9 := setRow_heap _ g9 _ (ncells x) _ _ hz9
          have hz10 : (Wn5134.setRow g9 (ncells x)).heap[g10]? = some (.cells Z 37 (0, 0)) := by rw [setRow_other _ _ _ _ (Ne.symm hne)]; exact hz10
          clear hS
          have hS := hHeld
          clear hHeld
          refine wpAnyH_ready (rs := [7]) (by kernel_rfl) (by simp) ?_
          refine' AllReadyH.cons ?hoc7n5134 (fun K hK => ?stc7n5134) AllReadyH.nil
          case hoc7n5134 => (simp only [List.getElem?_toArray, List.getElem?_cons_succ, List.getElem?_cons_zero]; rfl)
          refine step_store_row rfl 37 (.tmp 10) (.tmp 17) rfl g10 (ncells y) rfl rfl 37 _ hz10 (i47 YB.out.1) (ZL.out _ YB.out.1) (none_ _) ?_
          refine hK.out _ _ (hS.trans (below_row _ _ hg10)) (fun hHeld => ?_)
          clear hK K
          simp only [Act.put]
          refine wpAnyH_done (by kernel_rfl) ?_ _
          have r9 : ((Wn5134.setRow g9 (ncells x)).setRow g10 (ncells y)).heap[g9]? = some (.cells (ncells x) 37 (0, 0)) := by rw [setRow_other _ _ _ _ hne]; exact r9
          have r10 := setRow_heap _ g10 _ (ncells y) _ _ hz10
          go_wp2_with fail
          go_meet
          exact ⟨g9, g10, rfl, rfl, by omega, by omega, hne, (hHeld.block _ (blk_lt G0.out)).trans G0.out, (hHeld.block _ (blk_lt G1.out)).trans G1.out, r9, r10, HB.out.trans (hHeld.mono HB.out.size)⟩
        case stc4n51 =>
          go_simp
          refine hK.out _ _ (hS.alloc hS.size _) (fun hHeld => ?_)
          clear hK K
          try simp only [Act.put, List.setIfInBounds_toArray, List.set_cons_succ, List.set_cons_zero]
          have hz9 := heap_alloc_new Wn51 (.cells Z 37)
          have hb := (Below.refl Wn51.heap.size Wn51).alloc (Nat.le_refl _) (.cells Z 37)
          have hg9 := hS.size
          have hne : Wn51.heap.size ≠ g10 := by have := blk_lt hz10; omega
          have hz10 := (hb.block _ (blk_lt hz10)).trans hz10
          clear hS hb
          have hS := hHeld
          clear hHeld
          generalize Wn51.alloc (.cells Z 37) = Wn514 at *
          generalize Wn51.heap.size = g9 at *
          refine wpAnyH_ready (rs := [3]) (by kernel_rfl) (by simp) ?_
          refine' AllReadyH.cons ?hoc3n514 (fun K hK => ?stc3n514) AllReadyH.nil
          case hoc3n514 => (simp only [List.getElem?_toArray, List.getElem?_cons_succ, List.getElem?_cons_zero]; rfl)
          go_simp
          refine (D2.out _).mono ?_
          rintro e Wn5143 ⟨rfl, hb⟩
          have hz10 := (hb.block _ (blk_lt hz10)).trans hz10
          have hz9 := (hb.block _ (blk_lt hz9)).trans hz9
          go_wp2_with fail
          refine hK.out _ _ (hS.trans (hb.mono hS.size)) (fun hHeld => ?_)
          clear hK K
          try simp only [Act.put, List.setIfInBounds_toArray, List.set_cons_succ, List.set_cons_zero]
          clear hS hb
          have hS := hHeld
          clear hHeld
          refine wpAnyH_ready (rs := [6]) (by kernel_rfl) (by simp) ?_
          refine' AllReadyH.cons ?hoc6n5143 (fun K hK => ?stc6n5143) AllReadyH.nil
          case hoc6n5143 => (simp only [List.getElem?_toArray, List.getElem?_cons_succ, List.getElem?_cons_zero]; rfl)
          refine step_store_row rfl 37 (.tmp 9) (.tmp 15) rfl g9 (ncells x) rfl rfl 37 _ hz9 (i47 XB.out.1) (ZL.out _ XB.out.1) (none_ _) ?_
          refine hK.out _ _ (hS.trans (below_row _ _ hg9)) (fun hHeld => ?_)
          clear hK K
          simp only [Act.put]
          have r9 := setRow_heap _ g9 _ (ncells x) _ _ hz9
          have hz10 : (Wn5143.setRow g9 (ncells x)).heap[g10]? = some (.cells Z 37 (0, 0)) := by rw [setRow_other _ _ _ _ (Ne.symm hne)]; exact hz10
          clear hS
          have hS := hHeld
          clear hHeld
          refine wpAnyH_ready (rs := [7]) (by kernel_rfl) (by simp) ?_
          refine' AllReadyH.cons ?hoc7n5143 (fun K hK => ?stc7n5143) AllReadyH.nil
          case hoc7n5143 => (simp only [List.getElem?_toArray, List.getElem?_cons_succ, List.getElem?_cons_zero]; rfl)
          refine step_store_row rfl 37 (.tmp 10) (.tmp 17) rfl g10 (ncells y) rfl rfl 37 _ hz10 (i47 YB.out.1) (ZL.out _ YB.out.1) (none_ _) ?_
          refine hK.out _ _ (hS.trans (below_row _ _ hg10)) (fun hHeld => ?_)
          clear hK K
          simp only [Act.put]
          refine wpAnyH_done (by kernel_rfl) ?_ _
          have r9 : ((Wn5143.setRow g9 (ncells x)).setRow g10 (ncells y)).heap[g9]? = some (.cells (ncells x) 37 (0, 0)) := by rw [setRow_other _ _ _ _ hne]; exact r9
          have r10 := setRow_heap _ g10 _ (ncells y) _ _ hz10
          go_wp2_with fail
          go_meet
          exact ⟨g9, g10, rfl, rfl, by omega, by omega, hne, (hHeld.block _ (blk_lt G0.out)).trans G0.out, (hHeld.block _ (blk_lt G1.out)).trans G1.out, r9, r10, HB.out.trans (hHeld.mono HB.out.size)⟩
      case stc4n5 =>
        go_simp
        refine hK.out _ _ (hS.alloc hS.size _) (fun hHeld => ?_)
        clear hK K
        try simp only [Act.put, List.setIfInBounds_toArray, List.set_cons_succ, List.set_cons_zero]
        have hz9 := heap_alloc_new Wn5 (.cells Z 37)
        have hb := (Below.refl Wn5.heap.size Wn5).alloc (Nat.le_refl _) (.cells Z 37)
        have hg9 := hS.size
        have hne : Wn5.heap.size ≠ g10 := by have := blk_lt hz10; omega
        have hz10 := (hb.block _ (blk_lt hz10)).trans hz10
        clear hS hb
        have hS := hHeld
        clear hHeld
        generalize Wn5.alloc (.cells Z 37) = Wn54 at *
        generalize Wn5.heap.size = g9 at *
        refine wpAnyH_ready (rs := [1]) (by kernel_rfl) (by simp) ?_
        refine' AllReadyH.cons ?hoc1n54 (fun K hK => ?stc1n54) AllReadyH.nil
        case hoc1n54 => (simp only [List.getElem?_toArray, List.getElem?_cons_succ, List.getElem?_cons_zero]; rfl)
        go_simp
        refine (D1.out _).mono ?_
        rintro e Wn541 ⟨rfl, hb⟩
        have hz10 := (hb.block _ (blk_lt hz10)).trans hz10
        have hz9 := (hb.block _ (blk_lt hz9)).trans hz9
        go_wp2_with fail
        refine hK.out _ _ (hS.trans (hb.mono hS.size)) (fun hHeld => ?_)
        clear hK K
        try simp only [Act.put, List.setIfInBounds_toArray, List.set_cons_succ, List.set_cons_zero]
        clear hS hb
        have hS := hHeld
        clear hHeld
        refine wpAnyH_ready (rs := [3]) (by kernel_rfl) (by simp) ?_
        refine' AllReadyH.cons ?hoc3n541 (fun K hK => ?stc3n541) AllReadyH.nil
        case hoc3n541 => (simp only [List.getElem?_toArray, List.getElem?_cons_succ, List.getElem?_cons_zero]; rfl)
        go_simp
        refine (D2.out _).mono ?_
        rintro e Wn5413 ⟨rfl, hb⟩
        have hz10 := (hb.block _ (blk_lt hz10)).trans hz10
        have hz9 := (hb.block _ (blk_lt hz9)).trans hz9
        go_wp2_with fail
        refine hK.out _ _ (hS.trans (hb.mono hS.size)) (fun hHeld => ?_)
        clear hK K
        try simp only [Act.put, List.setIfInBounds_toArray, List.set_cons_succ, List.set_cons_zero]
        clear hS hb
        have hS := hHeld
        clear hHeld
        refine wpAnyH_ready (rs := [6]) (by kernel_rfl) (by simp) ?_
        refine' AllReadyH.cons ?hoc6n5413 (fun K hK => ?stc6n5413) AllReadyH.nil
        case hoc6n5413 => (simp only [List.getElem?_toArray, List.getElem?_cons_succ, List.getElem?_cons_zero]; rfl)
        refine step_store_row rfl 37 (.tmp 9) (.tmp 15) rfl g9 (ncells x) rfl rfl 37 _ hz9 (i47 XB.out.1) (ZL.out _ XB.out.1) (none_ _) ?_
        refine hK.out _ _ (hS.trans (below_row _ _ hg9)) (fun hHeld => ?_)
        clear hK K
        simp only [Act.put]
        have r9 := setRow_heap _ g9 _ (ncells x) _ _ hz9
        have hz10 : (Wn5413.setRow g9 (ncells x)).heap[g10]? = some (.cells Z 37 (0, 0)) := by rw [setRow_other _ _ _ _ (Ne.symm hne)]; exact hz10
        clear hS
        have hS := hHeld
        clear hHeld
        refine wpAnyH_ready (rs := [7]) (by kernel_rfl) (by simp) ?_
        refine' AllReadyH.cons ?hoc7n5413 (fun K hK => ?stc7n5413) AllReadyH.nil
        case hoc7n5413 => (simp only [List.getElem?_toArray, List.getElem?_cons_succ, List.getElem?_cons_zero]; rfl)
        refine step_store_row rfl 37 (.tmp 10) (.tmp 17) rfl g10 (ncells y) rfl rfl 37 _ hz10 (i47 YB.out.1) (ZL.out _ YB.out.1) (none_ _) ?_
        refine hK.out _ _ (hS.trans (below_row _ _ hg10)) (fun hHeld => ?_)
        clear hK K
        simp only [Act.put]
        refine wpAnyH_done (by kernel_rfl) ?_ _
        have r9 : ((Wn5413.setRow g9 (ncells x)).setRow g10 (ncells y)).heap[g9]? = some (.cells (ncells x) 37 (0, 0)) := by rw [setRow_other _ _ _ _ hne]; exact r9
        have r10 := setRow_heap _ g10 _ (ncells y) _ _ hz10
        go_wp2_with fail
        go_meet
        exact ⟨g9, g10, rfl, rfl, by omega, by omega, hne, (hHeld.block _ (blk_lt G0.out)).trans G0.out, (hHeld.block _ (blk_lt G1.out)).trans G1.out, r9, r10, HB.out.trans (hHeld.mono HB.out.size)⟩
  case rest =>
  obtain ⟨g9, g10, rfl, rfl, l9, l10, ne, k0, k1, k9, k10, kb⟩ := hcut
  clear G0 G1 HB HW0 D1 D2
  clear W0
  have b2 : Below wc.heap.size wc ((wc.alloc (.cells Z 37)).alloc (.cells Z 37)) := ((Below.refl _ _).alloc (Nat.le_refl _) _).alloc (by simp) _
  have T0 : Hid (TK w g9 g10 wc.heap.size (wc.heap.size + 1) m n x y (fillr 16 (fun j => Nat.xor (at_ m j) (at_ n j)) 0) (fillr 16 (fun j => Nat.xor (at_ x j) (at_ y j)) 0) ((wc.alloc (.cells Z 37)).alloc (.cells Z 37))) :=
    ⟨(b2.block _ (blk_lt k0)).trans k0, (b2.block _ (blk_lt k1)).trans k1, (b2.block _ (blk_lt k9)).trans k9, (b2.block _ (blk_lt k10)).trans k10,
      by rw [← FB0.out, Below.heap_alloc _ _ _ (by simp)]; exact heap_alloc_new wc _, by rw [← FW0.out]; exact heap_alloc2_new wc _ _, kb.trans (b2.mono kb.size)⟩
  have n9 := Lib.hid (blk_lt k9)
  have n10 := Lib.hid (blk_lt k10)
  have hsz := kb.size
  have L9 := Lib.hid l9
  have L10 := Lib.hid l10
  clear b2 k0 k1 k9 k10 kb l9 l10 ne
  go_wp2_with fail
  obtain ⟨g11, h11⟩ : ∃ g, g = wc.heap.size := ⟨_, rfl⟩
  rw [← h11] at T0 n9 n10 hsz ⊢
  have HSZ := Lib.hid hsz
  clear h11 hsz FB0 FW0
  go_loopw [13] (fun vi wr => ∃ i : Nat, i ≤ 16 ∧ vi = .int .i64 i ∧ TK w g9 g10 g11 (g11 + 1) m n x y (fillr 16 (fun j => Nat.xor (at_ m j) (at_ n j)) i) (fillr 16 (fun j => Nat.xor (at_ x j) (at_ y j)) i) wr) (fun vi _ => 16 - (intOf vi).toNat)
  case atStart => exact ⟨0, by omega, rfl, T0.out⟩
  case round =>
    clear T0
    obtain ⟨i, hi, rfl, htk⟩ := hrel
    by_cases hlt : i < 16
    · have hi16 : (i : Int) < 16 := by omega
      have c1 := cell_at htk.1 HM.out.1 hlt
      have c2 := cell_at htk.2.1 HN.out.1 hlt
      have c3 := cell_at htk.2.2.1 XB.out.1 hlt
      have c4 := cell_at htk.2.2.2.1 YB.out.1 hlt
      have c5 := cell_at htk.2.2.2.2.1 (fillr_len _ _ _) hlt
      have c6 := cell_at htk.2.2.2.2.2.1 (fillr_len _ _ _) hlt
      have f5 := frozen_of_row wr g11 i _ 37 htk.2.2.2.2.1
      have f6 := frozen_of_row wr (g11 + 1) i _ 37 htk.2.2.2.2.2.1
      have x1 := xor8 (at_ m i) (at_ n i) (HM.out.at_lt i) (HN.out.at_lt i)
      have x2 := xor8 (at_ x i) (at_ y i) (XB.out.at_lt i) (YB.out.at_lt i)
      have U1 := Lib.hid (row_at m n i)
      have U2 := Lib.hid (row_at x y i)
      have HT := Lib.hid htk
      have X1 := Lib.hid x1
      have X2 := Lib.hid x2
      clear htk x1 x2
      generalize at_ (fillr 16 (fun j => Nat.xor (at_ m j) (at_ n j)) i) i = y5 at *
      generalize at_ (fillr 16 (fun j => Nat.xor (at_ x j) (at_ y j)) i) i = y6 at *
      obtain ⟨z1, hz1⟩ : ∃ z, z = Nat.xor (at_ m i) (at_ n i) := ⟨_, rfl⟩
      obtain ⟨z2, hz2⟩ : ∃ z, z = Nat.xor (at_ x i) (at_ y i) := ⟨_, rfl⟩
      rw [← hz1] at X1 U1
      rw [← hz2] at X2 U2
      clear hz1 hz2
      have HLT := Lib.hid hlt
      have c5' := Lib.hid c5
      have c6' := Lib.hid c6
      have F5 := Lib.hid f5
      have F6 := Lib.hid f6
      have N := Lib.hid (show w.heap.size ≠ g11 ∧ w.heap.size + 1 ≠ g11 ∧ g9 ≠ g11 ∧ g10 ≠ g11 ∧ w.heap.size ≠ g11 + 1 ∧ w.heap.size + 1 ≠ g11 + 1 ∧ g9 ≠ g11 + 1 ∧ g10 ≠ g11 + 1 by
        have := L9.out; have := n9.out; have := n10.out; omega)
      have SZ : Hid (w.heap.size ≤ g11) := HSZ.out
      clear c1 c2 c3 c4 c5 c6 f5 f6 hlt
      go_wp2_with fail
      refine wp_region_held_drew (S := fun W => W.heap[w.heap.size]? = some (.cells (ncells m) 37 (0, 0)) ∧ W.heap[w.heap.size + 1]? = some (.cells (ncells n) 37 (0, 0)) ∧ W.heap[g9]? = some (.cells (ncells x) 37 (0, 0)) ∧ W.heap[g10]? = some (.cells (ncells y) 37 (0, 0))) (by kernel_rfl) ⟨HT.out.1, HT.out.2.1, HT.out.2.2.1, HT.out.2.2.2.1⟩ (fun hS => ?_)
      refine' wpAnyH_take (i := 0) ?h1x0s ?hsx0s ?hfx0s ?hrx0s ?hQx0s (Or.inl ⟨?hwx0s, ?hyx0s⟩) hS ?restx0s
      case h1x0s => (simp only [List.getElem?_toArray, List.getElem?_cons_zero]; rfl)
      case hsx0s => kernel_rfl
      case hfx0s => kernel_rfl
      case hrx0s => kernel_rfl
      case hQx0s => exact fun _ _ _ h => h
      case hwx0s => rfl
      case hyx0s =>
        intro W hW
        go_simp
        try with_reducible rfl
      simp only [Act.put, List.setIfInBounds_toArray, List.set_cons_succ, List.set_cons_zero]
      refine' wpAnyH_take (i := 1) ?h1x1s ?hsx1s ?hfx1s ?hrx1s ?hQx1s (Or.inl ⟨?hwx1s, ?hyx1s⟩) hS ?restx1s
      case h1x1s => (simp only [List.getElem?_toArray, List.getElem?_cons_succ, List.getElem?_cons_zero]; rfl)
      case hsx1s => kernel_rfl
      case hfx1s => kernel_rfl
      case hrx1s => kernel_rfl
      case hQx1s => exact fun _ _ _ h => h
      case hwx1s => rfl
      case hyx1s =>
        intro W hW
        go_simp
        try with_reducible rfl
      simp only [Act.put, List.setIfInBounds_toArray, List.set_cons_succ, List.set_cons_zero]
      refine' wpAnyH_take (i := 2) ?h1x2s ?hsx2s ?hfx2s ?hrx2s ?hQx2s (Or.inl ⟨?hwx2s, ?hyx2s⟩) hS ?restx2s
      case h1x2s => (simp only [List.getElem?_toArray, List.getElem?_cons_succ, List.getElem?_cons_zero]; rfl)
      case hsx2s => kernel_rfl
      case hfx2s => kernel_rfl
      case hrx2s => kernel_rfl
      case hQx2s => exact fun _ _ _ h => h
      case hwx2s => rfl
      case hyx2s =>
        intro W hW
        go_simp
        try with_reducible rfl
      simp only [Act.put, List.setIfInBounds_toArray, List.set_cons_succ, List.set_cons_zero]
      refine' wpAnyH_take (i := 3) ?h1x3s ?hsx3s ?hfx3s ?hrx3s ?hQx3s (Or.inl ⟨?hwx3s, ?hyx3s⟩) hS ?restx3s
      case h1x3s => (simp only [List.getElem?_toArray, List.getElem?_cons_succ, List.getElem?_cons_zero]; rfl)
      case hsx3s => kernel_rfl
      case hfx3s => kernel_rfl
      case hrx3s => kernel_rfl
      case hQx3s => exact fun _ _ _ h => h
      case hwx3s => rfl
      case hyx3s =>
        intro W hW
        go_simp
        try with_reducible rfl
      simp only [Act.put, List.setIfInBounds_toArray, List.set_cons_succ, List.set_cons_zero]
      refine' wpAnyH_take (i := 4) ?h1x4s ?hsx4s ?hfx4s ?hrx4s ?hQx4s (Or.inl ⟨?hwx4s, ?hyx4s⟩) hS ?restx4s
      case h1x4s => (simp only [List.getElem?_toArray, List.getElem?_cons_succ, List.getElem?_cons_zero]; rfl)
      case hsx4s => kernel_rfl
      case hfx4s => kernel_rfl
      case hrx4s => kernel_rfl
      case hQx4s => exact fun _ _ _ h => h
      case hwx4s => rfl
      case hyx4s =>
        intro W hW
        have dd := cell_at hW.1 HM.out.1 HLT.out
        go_simp
        try with_reducible rfl
      simp only [Act.put, List.setIfInBounds_toArray, List.set_cons_succ, List.set_cons_zero]
      refine' wpAnyH_take (i := 5) ?h1x5s ?hsx5s ?hfx5s ?hrx5s ?hQx5s (Or.inl ⟨?hwx5s, ?hyx5s⟩) hS ?restx5s
      case h1x5s => (simp only [List.getElem?_toArray, List.getElem?_cons_succ, List.getElem?_cons_zero]; rfl)
      case hsx5s => kernel_rfl
      case hfx5s => kernel_rfl
      case hrx5s => kernel_rfl
      case hQx5s => exact fun _ _ _ h => h
      case hwx5s => rfl
      case hyx5s =>
        intro W hW
        go_simp
        try with_reducible rfl
      simp only [Act.put, List.setIfInBounds_toArray, List.set_cons_succ, List.set_cons_zero]
      refine' wpAnyH_take (i := 6) ?h1x6s ?hsx6s ?hfx6s ?hrx6s ?hQx6s (Or.inl ⟨?hwx6s, ?hyx6s⟩) hS ?restx6s
      case h1x6s => (simp only [List.getElem?_toArray, List.getElem?_cons_succ, List.getElem?_cons_zero]; rfl)
      case hsx6s => kernel_rfl
      case hfx6s => kernel_rfl
      case hrx6s => kernel_rfl
      case hQx6s => exact fun _ _ _ h => h
      case hwx6s => rfl
      case hyx6s =>
        intro W hW
        go_simp
        try with_reducible rfl
      simp only [Act.put, List.setIfInBounds_toArray, List.set_cons_succ, List.set_cons_zero]
      refine' wpAnyH_take (i := 7) ?h1x7s ?hsx7s ?hfx7s ?hrx7s ?hQx7s (Or.inl ⟨?hwx7s, ?hyx7s⟩) hS ?restx7s
      case h1x7s => (simp only [List.getElem?_toArray, List.getElem?_cons_succ, List.getElem?_cons_zero]; rfl)
      case hsx7s => kernel_rfl
      case hfx7s => kernel_rfl
      case hrx7s => kernel_rfl
      case hQx7s => exact fun _ _ _ h => h
      case hwx7s => rfl
      case hyx7s =>
        intro W hW
        have dd := cell_at hW.2.1 HN.out.1 HLT.out
        go_simp
        try with_reducible rfl
      simp only [Act.put, List.setIfInBounds_toArray, List.set_cons_succ, List.set_cons_zero]
      refine' wpAnyH_take (i := 8) ?h1x8s ?hsx8s ?hfx8s ?hrx8s ?hQx8s (Or.inl ⟨?hwx8s, ?hyx8s⟩) hS ?restx8s
      case h1x8s => (simp only [List.getElem?_toArray, List.getElem?_cons_succ, List.getElem?_cons_zero]; rfl)
      case hsx8s => kernel_rfl
      case hfx8s => kernel_rfl
      case hrx8s => kernel_rfl
      case hQx8s => exact fun _ _ _ h => h
      case hwx8s => rfl
      case hyx8s =>
        intro W hW
        have dd := X1.out
        go_simp
        try with_reducible rfl
      simp only [Act.put, List.setIfInBounds_toArray, List.set_cons_succ, List.set_cons_zero]
      refine' wpAnyH_take (i := 9) ?h1x9s ?hsx9s ?hfx9s ?hrx9s ?hQx9s (Or.inl ⟨?hwx9s, ?hyx9s⟩) hS ?restx9s
      case h1x9s => (simp only [List.getElem?_toArray, List.getElem?_cons_succ, List.getElem?_cons_zero]; rfl)
      case hsx9s => kernel_rfl
      case hfx9s => kernel_rfl
      case hrx9s => kernel_rfl
      case hQx9s => exact fun _ _ _ h => h
      case hwx9s => rfl
      case hyx9s =>
        intro W hW
        go_simp
        try with_reducible rfl
      simp only [Act.put, List.setIfInBounds_toArray, List.set_cons_succ, List.set_cons_zero]
      refine' wpAnyH_take (i := 10) ?h1x10s ?hsx10s ?hfx10s ?hrx10s ?hQx10s (Or.inl ⟨?hwx10s, ?hyx10s⟩) hS ?restx10s
      case h1x10s => (simp only [List.getElem?_toArray, List.getElem?_cons_succ, List.getElem?_cons_zero]; rfl)
      case hsx10s => kernel_rfl
      case hfx10s => kernel_rfl
      case hrx10s => kernel_rfl
      case hQx10s => exact fun _ _ _ h => h
      case hwx10s => rfl
      case hyx10s =>
        intro W hW
        go_simp
        try with_reducible rfl
      simp only [Act.put, List.setIfInBounds_toArray, List.set_cons_succ, List.set_cons_zero]
      refine' wpAnyH_take (i := 11) ?h1x11s ?hsx11s ?hfx11s ?hrx11s ?hQx11s (Or.inl ⟨?hwx11s, ?hyx11s⟩) hS ?restx11s
      case h1x11s => (simp only [List.getElem?_toArray, List.getElem?_cons_succ, List.getElem?_cons_zero]; rfl)
      case hsx11s => kernel_rfl
      case hfx11s => kernel_rfl
      case hrx11s => kernel_rfl
      case hQx11s => exact fun _ _ _ h => h
      case hwx11s => rfl
      case hyx11s =>
        intro W hW
        have dd := cell_at hW.2.2.1 XB.out.1 HLT.out
        go_simp
        try with_reducible rfl
      simp only [Act.put, List.setIfInBounds_toArray, List.set_cons_succ, List.set_cons_zero]
      refine' wpAnyH_take (i := 12) ?h1x12s ?hsx12s ?hfx12s ?hrx12s ?hQx12s (Or.inl ⟨?hwx12s, ?hyx12s⟩) hS ?restx12s
      case h1x12s => (simp only [List.getElem?_toArray, List.getElem?_cons_succ, List.getElem?_cons_zero]; rfl)
      case hsx12s => kernel_rfl
      case hfx12s => kernel_rfl
      case hrx12s => kernel_rfl
      case hQx12s => exact fun _ _ _ h => h
      case hwx12s => rfl
      case hyx12s =>
        intro W hW
        go_simp
        try with_reducible rfl
      simp only [Act.put, List.setIfInBounds_toArray, List.set_cons_succ, List.set_cons_zero]
      refine' wpAnyH_take (i := 13) ?h1x13s ?hsx13s ?hfx13s ?hrx13s ?hQx13s (Or.inl ⟨?hwx13s, ?hyx13s⟩) hS ?restx13s
      case h1x13s => (simp only [List.getElem?_toArray, List.getElem?_cons_succ, List.getElem?_cons_zero]; rfl)
      case hsx13s => kernel_rfl
      case hfx13s => kernel_rfl
      case hrx13s => kernel_rfl
      case hQx13s => exact fun _ _ _ h => h
      case hwx13s => rfl
      case hyx13s =>
        intro W hW
        go_simp
        try with_reducible rfl
      simp only [Act.put, List.setIfInBounds_toArray, List.set_cons_succ, List.set_cons_zero]
      refine' wpAnyH_take (i := 14) ?h1x14s ?hsx14s ?hfx14s ?hrx14s ?hQx14s (Or.inl ⟨?hwx14s, ?hyx14s⟩) hS ?restx14s
      case h1x14s => (simp only [List.getElem?_toArray, List.getElem?_cons_succ, List.getElem?_cons_zero]; rfl)
      case hsx14s => kernel_rfl
      case hfx14s => kernel_rfl
      case hrx14s => kernel_rfl
      case hQx14s => exact fun _ _ _ h => h
      case hwx14s => rfl
      case hyx14s =>
        intro W hW
        have dd := cell_at hW.2.2.2 YB.out.1 HLT.out
        go_simp
        try with_reducible rfl
      simp only [Act.put, List.setIfInBounds_toArray, List.set_cons_succ, List.set_cons_zero]
      refine' wpAnyH_take (i := 15) ?h1x15s ?hsx15s ?hfx15s ?hrx15s ?hQx15s (Or.inl ⟨?hwx15s, ?hyx15s⟩) hS ?restx15s
      case h1x15s => (simp only [List.getElem?_toArray, List.getElem?_cons_succ, List.getElem?_cons_zero]; rfl)
      case hsx15s => kernel_rfl
      case hfx15s => kernel_rfl
      case hrx15s => kernel_rfl
      case hQx15s => exact fun _ _ _ h => h
      case hwx15s => rfl
      case hyx15s =>
        intro W hW
        have dd := X2.out
        go_simp
        try with_reducible rfl
      simp only [Act.put, List.setIfInBounds_toArray, List.set_cons_succ, List.set_cons_zero]
      refine' wpAnyH_take (i := 16) ?h1x16s ?hsx16s ?hfx16s ?hrx16s ?hQx16s (Or.inl ⟨?hwx16s, ?hyx16s⟩) hS ?restx16s
      case h1x16s => (simp only [List.getElem?_toArray, List.getElem?_cons_succ, List.getElem?_cons_zero]; rfl)
      case hsx16s => kernel_rfl
      case hfx16s => kernel_rfl
      case hrx16s => kernel_rfl
      case hQx16s => exact fun _ _ _ h => h
      case hwx16s => rfl
      case hyx16s =>
        intro W hW
        go_simp
        try with_reducible rfl
      simp only [Act.put, List.setIfInBounds_toArray, List.set_cons_succ, List.set_cons_zero]
      refine wpAnyH_ready (rs := [17]) (by kernel_rfl) (by simp) ?_
      refine' AllReadyH.cons ?hoc17s (fun K hK => ?stc17s) AllReadyH.nil
      case hoc17s => (simp only [List.getElem?_toArray, List.getElem?_cons_succ, List.getElem?_cons_zero]; rfl)
      have dd := c5'.out
      have df := F5.out
      go_simp
      have S1 : Hid ((wr.setCell ⟨g11, i, none⟩ (.int .u8 (z1 : Nat))).drew.heap[w.heap.size]? = some (.cells (ncells m) 37 (0, 0)) ∧ (wr.setCell ⟨g11, i, none⟩ (.int .u8 (z1 : Nat))).drew.heap[w.heap.size + 1]? = some (.cells (ncells n) 37 (0, 0)) ∧ (wr.setCell ⟨g11, i, none⟩ (.int .u8 (z1 : Nat))).drew.heap[g9]? = some (.cells (ncells x) 37 (0, 0)) ∧ (wr.setCell ⟨g11, i, none⟩ (.int .u8 (z1 : Nat))).drew.heap[g10]? = some (.cells (ncells y) 37 (0, 0))) :=
        ⟨(heap_setCell_other _ _ _ _ N.out.1).trans hS.1, (heap_setCell_other _ _ _ _ N.out.2.1).trans hS.2.1, (heap_setCell_other _ _ _ _ N.out.2.2.1).trans hS.2.2.1, (heap_setCell_other _ _ _ _ N.out.2.2.2.1).trans hS.2.2.2⟩
      refine hK.out _ _ S1.out (fun hHeld => ?_)
      clear hK K dd df
      try simp only [Act.put]
      clear hS
      have hS := hHeld
      clear hHeld
      refine' wpAnyH_take (i := 18) ?h1x18s ?hsx18s ?hfx18s ?hrx18s ?hQx18s (Or.inl ⟨?hwx18s, ?hyx18s⟩) hS ?restx18s
      case h1x18s => (simp only [List.getElem?_toArray, List.getElem?_cons_succ, List.getElem?_cons_zero]; rfl)
      case hsx18s => kernel_rfl
      case hfx18s => kernel_rfl
      case hrx18s => kernel_rfl
      case hQx18s => exact fun _ _ _ h => h
      case hwx18s => rfl
      case hyx18s =>
        intro W hW
        go_simp
        try with_reducible rfl
      simp only [Act.put, List.setIfInBounds_toArray, List.set_cons_succ, List.set_cons_zero]
      refine wpAnyH_ready (rs := [19]) (by kernel_rfl) (by simp) ?_
      refine' AllReadyH.cons ?hoc19s (fun K hK => ?stc19s) AllReadyH.nil
      case hoc19s => (simp only [List.getElem?_toArray, List.getElem?_cons_succ, List.getElem?_cons_zero]; rfl)
      have R5 : Hid ((wr.setCell ⟨g11, i, none⟩ (.int .u8 (z1 : Nat))).drew.heap[g11]? = some (.cells (ncells (fillr 16 (fun j => Nat.xor (at_ m j) (at_ n j)) (i + 1))) 37 (0, 0))) := by
        exact (heap_setCell_same _ _ _ _ _ _ HT.out.2.2.2.2.1).trans (by rw [U1.out])
      have R6 : Hid ((wr.setCell ⟨g11, i, none⟩ (.int .u8 (z1 : Nat))).drew.heap[g11 + 1]? = some (.cells (ncells (fillr 16 (fun j => Nat.xor (at_ x j) (at_ y j)) i)) 37 (0, 0))) := (heap_setCell_other _ _ _ _ (by simp)).trans HT.out.2.2.2.2.2.1
      have dd := (cell_at R6.out (fillr_len _ _ _) HLT.out)
      have df := frozen_of_row _ (g11 + 1) i _ 37 R6.out
      have BB : Hid (Below w.heap.size w (wr.setCell ⟨g11, i, none⟩ (.int .u8 (z1 : Nat))).drew) := (HT.out.2.2.2.2.2.2.setCell SZ.out _).drew
      generalize (wr.setCell ⟨g11, i, none⟩ (.int .u8 (z1 : Nat))).drew = W5 at *
      go_simp
      refine hK.out _ _ ⟨(heap_setCell_other _ _ _ _ N.out.2.2.2.2.1).trans hS.1, (heap_setCell_other _ _ _ _ N.out.2.2.2.2.2.1).trans hS.2.1, (heap_setCell_other _ _ _ _ N.out.2.2.2.2.2.2.1).trans hS.2.2.1, (heap_setCell_other _ _ _ _ N.out.2.2.2.2.2.2.2).trans hS.2.2.2⟩ (fun hHeld => ?_)
      clear hK K dd df
      try simp only [Act.put]
      refine wpAnyH_done (by kernel_rfl) ?_ _
      have R6b : Hid ((W5.setCell ⟨g11 + 1, i, none⟩ (.int .u8 (z2 : Nat))).heap[g11 + 1]? = some (.cells (ncells (fillr 16 (fun j => Nat.xor (at_ x j) (at_ y j)) (i + 1))) 37 (0, 0))) := by
        show _ = _
        rw [heap_setCell_same _ _ _ _ _ _ R6.out, U2.out]
      have R5b : Hid ((W5.setCell ⟨g11 + 1, i, none⟩ (.int .u8 (z2 : Nat))).heap[g11]? = some (.cells (ncells (fillr 16 (fun j => Nat.xor (at_ m j) (at_ n j)) (i + 1))) 37 (0, 0))) := (heap_setCell_other _ _ _ _ (by simp)).trans R5.out
      have BB2 : Hid (Below w.heap.size w (W5.setCell ⟨g11 + 1, i, none⟩ (.int .u8 (z2 : Nat)))) := BB.out.setCell (by have := SZ.out; show w.heap.size ≤ g11 + 1; omega) _
      go_wp2_with fail
      go_roundw
      case rel => exact ⟨i + 1, by have := HLT.out; omega, by go_num, hHeld.1, hHeld.2.1, hHeld.2.2.1, hHeld.2.2.2, R5b.out, R6b.out, BB2.out⟩
      case measure => have := HLT.out; simp [intOf]; omega
    · obtain rfl : i = 16 := by omega
      rw [FB.out, FW.out] at htk
      have HT := Lib.hid htk
      have q1 := Q1.out
      have q2 := Q2.out
      have q3 := Q3.out
      have q4 := Q4.out
      have q5 := Q5.out
      clear htk hi hlt
      go_wp2_with fail
      refine wp_region_held_drew (S := fun W => Below wr.heap.size wr W) (by kernel_rfl) (Below.refl _ _).drew (fun hS => ?_)
      refine wpAnyH_ready (rs := [0]) (by kernel_rfl) (by simp) ?_
      refine' AllReadyH.cons ?hoc0u (fun K hK => ?stc0u) AllReadyH.nil
      case hoc0u => (simp only [List.getElem?_toArray, List.getElem?_cons_zero]; rfl)
      go_simp
      refine (alive6 _).mono ?_
      rintro e wa ⟨rfl, hb⟩
      go_wp2_with fail
      refine hK.out _ _ (hS.trans (hb.mono hS.size)) (fun hHeld => ?_)
      clear hK K
      try simp only [Act.put, List.setIfInBounds_toArray, List.set_cons_succ, List.set_cons_zero]
      clear hS hb
      have hS := hHeld
      clear hHeld
      refine' wpAnyH_take (i := 1) ?h1x1u ?hsx1u ?hfx1u ?hrx1u ?hQx1u (Or.inl ⟨?hwx1u, ?hyx1u⟩) hS ?restx1u
      case h1x1u => (simp only [List.getElem?_toArray, List.getElem?_cons_succ, List.getElem?_cons_zero]; rfl)
      case hsx1u => kernel_rfl
      case hfx1u => kernel_rfl
      case hrx1u => kernel_rfl
      case hQx1u => exact fun _ _ _ h => h
      case hwx1u => rfl
      case hyx1u =>
        intro W hW
        go_simp
        try with_reducible rfl
      simp only [Act.put, List.setIfInBounds_toArray, List.set_cons_succ, List.set_cons_zero]
      refine' wpAnyH_take (i := 2) ?h1x2u ?hsx2u ?hfx2u ?hrx2u ?hQx2u (Or.inl ⟨?hwx2u, ?hyx2u⟩) hS ?restx2u
      case h1x2u => (simp only [List.getElem?_toArray, List.getElem?_cons_succ, List.getElem?_cons_zero]; rfl)
      case hsx2u => kernel_rfl
      case hfx2u => kernel_rfl
      case hrx2u => kernel_rfl
      case hQx2u => exact fun _ _ _ h => h
      case hwx2u => rfl
      case hyx2u =>
        intro W hW
        go_simp
        try with_reducible rfl
      simp only [Act.put, List.setIfInBounds_toArray, List.set_cons_succ, List.set_cons_zero]
      refine' wpAnyH_take (i := 4) ?h1x4u ?hsx4u ?hfx4u ?hrx4u ?hQx4u (Or.inl ⟨?hwx4u, ?hyx4u⟩) hS ?restx4u
      case h1x4u => (simp only [List.getElem?_toArray, List.getElem?_cons_succ, List.getElem?_cons_zero]; rfl)
      case hsx4u => kernel_rfl
      case hfx4u => kernel_rfl
      case hrx4u => kernel_rfl
      case hQx4u => exact fun _ _ _ h => h
      case hwx4u => rfl
      case hyx4u =>
        intro W hW
        go_simp
        try with_reducible rfl
      simp only [Act.put, List.setIfInBounds_toArray, List.set_cons_succ, List.set_cons_zero]
      refine' wpAnyH_take (i := 7) ?h1x7u ?hsx7u ?hfx7u ?hrx7u ?hQx7u (Or.inl ⟨?hwx7u, ?hyx7u⟩) hS ?restx7u
      case h1x7u => (simp only [List.getElem?_toArray, List.getElem?_cons_succ, List.getElem?_cons_zero]; rfl)
      case hsx7u => kernel_rfl
      case hfx7u => kernel_rfl
      case hrx7u => kernel_rfl
      case hQx7u => exact fun _ _ _ h => h
      case hwx7u => rfl
      case hyx7u =>
        intro W hW
        go_simp
        try with_reducible rfl
      simp only [Act.put, List.setIfInBounds_toArray, List.set_cons_succ, List.set_cons_zero]
      refine' wpAnyH_take (i := 8) ?h1x8u ?hsx8u ?hfx8u ?hrx8u ?hQx8u (Or.inl ⟨?hwx8u, ?hyx8u⟩) hS ?restx8u
      case h1x8u => (simp only [List.getElem?_toArray, List.getElem?_cons_succ, List.getElem?_cons_zero]; rfl)
      case hsx8u => kernel_rfl
      case hfx8u => kernel_rfl
      case hrx8u => kernel_rfl
      case hQx8u => exact fun _ _ _ h => h
      case hwx8u => rfl
      case hyx8u =>
        intro W hW
        go_simp
        try with_reducible rfl
      simp only [Act.put, List.setIfInBounds_toArray, List.set_cons_succ, List.set_cons_zero]
      refine' wpAnyH_take (i := 9) ?h1x9u ?hsx9u ?hfx9u ?hrx9u ?hQx9u (Or.inl ⟨?hwx9u, ?hyx9u⟩) hS ?restx9u
      case h1x9u => (simp only [List.getElem?_toArray, List.getElem?_cons_succ, List.getElem?_cons_zero]; rfl)
      case hsx9u => kernel_rfl
      case hfx9u => kernel_rfl
      case hrx9u => kernel_rfl
      case hQx9u => exact fun _ _ _ h => h
      case hwx9u => rfl
      case hyx9u =>
        intro W hW
        go_simp
        try with_reducible rfl
      simp only [Act.put, List.setIfInBounds_toArray, List.set_cons_succ, List.set_cons_zero]
      refine wpAnyH_ready (rs := [3]) (by kernel_rfl) (by simp) ?_
      refine' AllReadyH.cons ?hoc3u (fun K hK => ?stc3u) AllReadyH.nil
      case hoc3u => (simp only [List.getElem?_toArray, List.getElem?_cons_succ, List.getElem?_cons_zero]; rfl)
      go_simp
      refine (TS1.out _).mono ?_
      rintro e wb ⟨rfl, hb⟩
      go_wp2_with fail
      refine hK.out _ _ (hS.trans (hb.mono hS.size)) (fun hHeld => ?_)
      clear hK K
      try simp only [Act.put, List.setIfInBounds_toArray, List.set_cons_succ, List.set_cons_zero]
      clear hS hb
      have hS := hHeld
      clear hHeld
      refine wpAnyH_ready (rs := [5]) (by kernel_rfl) (by simp) ?_
      refine' AllReadyH.cons ?hoc5u (fun K hK => ?stc5u) AllReadyH.nil
      case hoc5u => (simp only [List.getElem?_toArray, List.getElem?_cons_succ, List.getElem?_cons_zero]; rfl)
      go_simp
      refine (TS2.out _).mono ?_
      rintro e wd ⟨rfl, hb⟩
      go_wp2_with fail
      refine hK.out _ _ (hS.trans (hb.mono hS.size)) (fun hHeld => ?_)
      clear hK K
      try simp only [Act.put, List.setIfInBounds_toArray, List.set_cons_succ, List.set_cons_zero]
      clear hS hb
      have hS := hHeld
      clear hHeld
      refine' wpAnyH_take (i := 6) ?h1x6u ?hsx6u ?hfx6u ?hrx6u ?hQx6u (Or.inl ⟨?hwx6u, ?hyx6u⟩) hS ?restx6u
      case h1x6u => (simp only [List.getElem?_toArray, List.getElem?_cons_succ, List.getElem?_cons_zero]; rfl)
      case hsx6u => kernel_rfl
      case hfx6u => kernel_rfl
      case hrx6u => kernel_rfl
      case hQx6u => exact fun _ _ _ h => h
      case hwx6u => rfl
      case hyx6u =>
        intro W hW
        go_simp
        try with_reducible rfl
      simp only [Act.put, List.setIfInBounds_toArray, List.set_cons_succ, List.set_cons_zero]
      refine' wpAnyH_take (i := 10) ?h1x10u ?hsx10u ?hfx10u ?hrx10u ?hQx10u (Or.inl ⟨?hwx10u, ?hyx10u⟩) hS ?restx10u
      case h1x10u => (simp only [List.getElem?_toArray, List.getElem?_cons_succ, List.getElem?_cons_zero]; rfl)
      case hsx10u => kernel_rfl
      case hfx10u => kernel_rfl
      case hrx10u => kernel_rfl
      case hQx10u => exact fun _ _ _ h => h
      case hwx10u => rfl
      case hyx10u =>
        intro W hW
        go_simp
        try with_reducible rfl
      simp only [Act.put, List.setIfInBounds_toArray, List.set_cons_succ, List.set_cons_zero]
      refine' wpAnyH_take (i := 11) ?h1x11u ?hsx11u ?hfx11u ?hrx11u ?hQx11u (Or.inl ⟨?hwx11u, ?hyx11u⟩) hS ?restx11u
      case h1x11u => (simp only [List.getElem?_toArray, List.getElem?_cons_succ, List.getElem?_cons_zero]; rfl)
      case hsx11u => kernel_rfl
      case hfx11u => kernel_rfl
      case hrx11u => kernel_rfl
      case hQx11u => exact fun _ _ _ h => h
      case hwx11u => rfl
      case hyx11u =>
        intro W hW
        go_simp
        try with_reducible rfl
      simp only [Act.put, List.setIfInBounds_toArray, List.set_cons_succ, List.set_cons_zero]
      refine' wpAnyH_take (i := 12) ?h1x12u ?hsx12u ?hfx12u ?hrx12u ?hQx12u (Or.inl ⟨?hwx12u, ?hyx12u⟩) hS ?restx12u
      case h1x12u => (simp only [List.getElem?_toArray, List.getElem?_cons_succ, List.getElem?_cons_zero]; rfl)
      case hsx12u => kernel_rfl
      case hfx12u => kernel_rfl
      case hrx12u => kernel_rfl
      case hQx12u => exact fun _ _ _ h => h
      case hwx12u => rfl
      case hyx12u =>
        intro W hW
        go_simp
        try with_reducible rfl
      simp only [Act.put, List.setIfInBounds_toArray, List.set_cons_succ, List.set_cons_zero]
      refine' wpAnyH_take (i := 13) ?h1x13u ?hsx13u ?hfx13u ?hrx13u ?hQx13u (yieldsIf_load_at ?hwx13u 37 (.tmp 9) ?hopx13u g9 0 rfl (ncells x) _ (fun W hW => range_row ((hW.block _ (blk_lt HT.out.2.2.1)).trans HT.out.2.2.1)) Try.underlying37 rfl ?hix13u) hS ?restx13u
      case h1x13u => (simp only [List.getElem?_toArray, List.getElem?_cons_succ, List.getElem?_cons_zero]; rfl)
      case hopx13u => rfl
      case hsx13u => kernel_rfl
      case hfx13u => kernel_rfl
      case hrx13u => kernel_rfl
      case hQx13u => exact fun _ _ _ h => h
      case hwx13u => rfl
      case hix13u => exact (i47 XB.out.1)
      simp only [Act.put, List.setIfInBounds_toArray, List.set_cons_succ, List.set_cons_zero]
      refine' wpAnyH_take (i := 14) ?h1x14u ?hsx14u ?hfx14u ?hrx14u ?hQx14u (yieldsIf_load_at ?hwx14u 37 (.tmp 10) ?hopx14u g10 0 rfl (ncells y) _ (fun W hW => range_row ((hW.block _ (blk_lt HT.out.2.2.2.1)).trans HT.out.2.2.2.1)) Try.underlying37 rfl ?hix14u) hS ?restx14u
      case h1x14u => (simp only [List.getElem?_toArray, List.getElem?_cons_succ, List.getElem?_cons_zero]; rfl)
      case hopx14u => rfl
      case hsx14u => kernel_rfl
      case hfx14u => kernel_rfl
      case hrx14u => kernel_rfl
      case hQx14u => exact fun _ _ _ h => h
      case hwx14u => rfl
      case hix14u => exact (i47 YB.out.1)
      simp only [Act.put, List.setIfInBounds_toArray, List.set_cons_succ, List.set_cons_zero]
      refine' wpAnyH_take (i := 15) ?h1x15u ?hsx15u ?hfx15u ?hrx15u ?hQx15u (Or.inl ⟨?hwx15u, ?hyx15u⟩) hS ?restx15u
      case h1x15u => (simp only [List.getElem?_toArray, List.getElem?_cons_succ, List.getElem?_cons_zero]; rfl)
      case hsx15u => kernel_rfl
      case hfx15u => kernel_rfl
      case hrx15u => kernel_rfl
      case hQx15u => exact fun _ _ _ h => h
      case hwx15u => rfl
      case hyx15u =>
        intro W hW
        go_simp
        try with_reducible rfl
      simp only [Act.put, List.setIfInBounds_toArray, List.set_cons_succ, List.set_cons_zero]
      refine' wpAnyH_take (i := 16) ?h1x16u ?hsx16u ?hfx16u ?hrx16u ?hQx16u (yieldsIf_load_at ?hwx16u 37 (.tmp 6) ?hopx16u w.heap.size 0 rfl (ncells m) _ (fun W hW => range_row ((hW.block _ (blk_lt HT.out.1)).trans HT.out.1)) Try.underlying37 rfl ?hix16u) hS ?restx16u
      case h1x16u => (simp only [List.getElem?_toArray, List.getElem?_cons_succ, List.getElem?_cons_zero]; rfl)
      case hopx16u => rfl
      case hsx16u => kernel_rfl
      case hfx16u => kernel_rfl
      case hrx16u => kernel_rfl
      case hQx16u => exact fun _ _ _ h => h
      case hwx16u => rfl
      case hix16u => exact (i47 HM.out.1)
      simp only [Act.put, List.setIfInBounds_toArray, List.set_cons_succ, List.set_cons_zero]
      refine' wpAnyH_take (i := 17) ?h1x17u ?hsx17u ?hfx17u ?hrx17u ?hQx17u (yieldsIf_load_at ?hwx17u 37 (.tmp 7) ?hopx17u (w.heap.size + 1) 0 rfl (ncells n) _ (fun W hW => range_row ((hW.block _ (blk_lt HT.out.2.1)).trans HT.out.2.1)) Try.underlying37 rfl ?hix17u) hS ?restx17u
      case h1x17u => (simp only [List.getElem?_toArray, List.getElem?_cons_succ, List.getElem?_cons_zero]; rfl)
      case hopx17u => rfl
      case hsx17u => kernel_rfl
      case hfx17u => kernel_rfl
      case hrx17u => kernel_rfl
      case hQx17u => exact fun _ _ _ h => h
      case hwx17u => rfl
      case hix17u => exact (i47 HN.out.1)
      simp only [Act.put, List.setIfInBounds_toArray, List.set_cons_succ, List.set_cons_zero]
      refine' wpAnyH_take (i := 18) ?h1x18u ?hsx18u ?hfx18u ?hrx18u ?hQx18u (Or.inl ⟨?hwx18u, ?hyx18u⟩) hS ?restx18u
      case h1x18u => (simp only [List.getElem?_toArray, List.getElem?_cons_succ, List.getElem?_cons_zero]; rfl)
      case hsx18u => kernel_rfl
      case hfx18u => kernel_rfl
      case hrx18u => kernel_rfl
      case hQx18u => exact fun _ _ _ h => h
      case hwx18u => rfl
      case hyx18u =>
        intro W hW
        go_simp
        try with_reducible rfl
      simp only [Act.put, List.setIfInBounds_toArray, List.set_cons_succ, List.set_cons_zero]
      refine' wpAnyH_take (i := 19) ?h1x19u ?hsx19u ?hfx19u ?hrx19u ?hQx19u (Or.inl ⟨?hwx19u, ?hyx19u⟩) hS ?restx19u
      case h1x19u => (simp only [List.getElem?_toArray, List.getElem?_cons_succ, List.getElem?_cons_zero]; rfl)
      case hsx19u => kernel_rfl
      case hfx19u => kernel_rfl
      case hrx19u => kernel_rfl
      case hQx19u => exact fun _ _ _ h => h
      case hwx19u => rfl
      case hyx19u =>
        intro W hW
        go_simp
        try with_reducible rfl
      simp only [Act.put, List.setIfInBounds_toArray, List.set_cons_succ, List.set_cons_zero]
      refine' wpAnyH_take (i := 20) ?h1x20u ?hsx20u ?hfx20u ?hrx20u ?hQx20u (Or.inl ⟨?hwx20u, ?hyx20u⟩) hS ?restx20u
      case h1x20u => (simp only [List.getElem?_toArray, List.getElem?_cons_succ, List.getElem?_cons_zero]; rfl)
      case hsx20u => kernel_rfl
      case hfx20u => kernel_rfl
      case hrx20u => kernel_rfl
      case hQx20u => exact fun _ _ _ h => h
      case hwx20u => rfl
      case hyx20u =>
        intro W hW
        go_simp
        try with_reducible rfl
      simp only [Act.put, List.setIfInBounds_toArray, List.set_cons_succ, List.set_cons_zero]
      refine' wpAnyH_take (i := 21) ?h1x21u ?hsx21u ?hfx21u ?hrx21u ?hQx21u (Or.inl ⟨?hwx21u, ?hyx21u⟩) hS ?restx21u
      case h1x21u => (simp only [List.getElem?_toArray, List.getElem?_cons_succ, List.getElem?_cons_zero]; rfl)
      case hsx21u => kernel_rfl
      case hfx21u => kernel_rfl
      case hrx21u => kernel_rfl
      case hQx21u => exact fun _ _ _ h => h
      case hwx21u => rfl
      case hyx21u =>
        intro W hW
        go_simp
        try with_reducible rfl
      simp only [Act.put, List.setIfInBounds_toArray, List.set_cons_succ, List.set_cons_zero]
      refine' wpAnyH_take (i := 22) ?h1x22u ?hsx22u ?hfx22u ?hrx22u ?hQx22u (yieldsIf_load_at ?hwx22u 37 (.tmp 11) ?hopx22u g11 0 rfl (ncells (jn m n)) _ (fun W hW => range_row ((hW.block _ (blk_lt HT.out.2.2.2.2.1)).trans HT.out.2.2.2.2.1)) Try.underlying37 rfl ?hix22u) hS ?restx22u
      case h1x22u => (simp only [List.getElem?_toArray, List.getElem?_cons_succ, List.getElem?_cons_zero]; rfl)
      case hopx22u => rfl
      case hsx22u => kernel_rfl
      case hfx22u => kernel_rfl
      case hrx22u => kernel_rfl
      case hQx22u => exact fun _ _ _ h => h
      case hwx22u => rfl
      case hix22u => exact (i47 JB.out.1)
      simp only [Act.put, List.setIfInBounds_toArray, List.set_cons_succ, List.set_cons_zero]
      refine' wpAnyH_take (i := 24) ?h1x24u ?hsx24u ?hfx24u ?hrx24u ?hQx24u (yieldsIf_load_at ?hwx24u 37 (.tmp 12) ?hopx24u (g11 + 1) 0 rfl (ncells (jn x y)) _ (fun W hW => range_row ((hW.block _ (blk_lt HT.out.2.2.2.2.2.1)).trans HT.out.2.2.2.2.2.1)) Try.underlying37 rfl ?hix24u) hS ?restx24u
      case h1x24u => (simp only [List.getElem?_toArray, List.getElem?_cons_succ, List.getElem?_cons_zero]; rfl)
      case hopx24u => rfl
      case hsx24u => kernel_rfl
      case hfx24u => kernel_rfl
      case hrx24u => kernel_rfl
      case hQx24u => exact fun _ _ _ h => h
      case hwx24u => rfl
      case hix24u => exact (i47 JW.out.1)
      simp only [Act.put, List.setIfInBounds_toArray, List.set_cons_succ, List.set_cons_zero]
      refine wpAnyH_ready (rs := [23]) (by kernel_rfl) (by simp) ?_
      refine' AllReadyH.cons ?hoc23u (fun K hK => ?stc23u) AllReadyH.nil
      case hoc23u => (simp only [List.getElem?_toArray, List.getElem?_cons_succ, List.getElem?_cons_zero]; rfl)
      go_simp
      refine (D3.out _).mono ?_
      rintro e we ⟨rfl, hb⟩
      go_wp2_with fail
      refine hK.out _ _ (hS.trans (hb.mono hS.size)) (fun hHeld => ?_)
      clear hK K
      try simp only [Act.put, List.setIfInBounds_toArray, List.set_cons_succ, List.set_cons_zero]
      clear hS hb
      have hS := hHeld
      clear hHeld
      refine' wpAnyH_take (i := 25) ?h1x25u ?hsx25u ?hfx25u ?hrx25u ?hQx25u (Or.inl ⟨?hwx25u, ?hyx25u⟩) hS ?restx25u
      case h1x25u => (simp only [List.getElem?_toArray, List.getElem?_cons_succ, List.getElem?_cons_zero]; rfl)
      case hsx25u => kernel_rfl
      case hfx25u => kernel_rfl
      case hrx25u => kernel_rfl
      case hQx25u => exact fun _ _ _ h => h
      case hwx25u => rfl
      case hyx25u =>
        intro W hW
        go_simp
        try with_reducible rfl
      simp only [Act.put, List.setIfInBounds_toArray, List.set_cons_succ, List.set_cons_zero]
      refine' wpAnyH_take (i := 26) ?h1x26u ?hsx26u ?hfx26u ?hrx26u ?hQx26u (Or.inl ⟨?hwx26u, ?hyx26u⟩) hS ?restx26u
      case h1x26u => (simp only [List.getElem?_toArray, List.getElem?_cons_succ, List.getElem?_cons_zero]; rfl)
      case hsx26u => kernel_rfl
      case hfx26u => kernel_rfl
      case hrx26u => kernel_rfl
      case hQx26u => exact fun _ _ _ h => h
      case hwx26u => rfl
      case hyx26u =>
        intro W hW
        go_simp
        try with_reducible rfl
      simp only [Act.put, List.setIfInBounds_toArray, List.set_cons_succ, List.set_cons_zero]
      refine' wpAnyH_take (i := 27) ?h1x27u ?hsx27u ?hfx27u ?hrx27u ?hQx27u (Or.inl ⟨?hwx27u, ?hyx27u⟩) hS ?restx27u
      case h1x27u => (simp only [List.getElem?_toArray, List.getElem?_cons_succ, List.getElem?_cons_zero]; rfl)
      case hsx27u => kernel_rfl
      case hfx27u => kernel_rfl
      case hrx27u => kernel_rfl
      case hQx27u => exact fun _ _ _ h => h
      case hwx27u => rfl
      case hyx27u =>
        intro W hW
        go_simp
        try with_reducible rfl
      simp only [Act.put, List.setIfInBounds_toArray, List.set_cons_succ, List.set_cons_zero]
      refine wpAnyH_done (by kernel_rfl) ?_ _
      go_wp2_with fail
      go_ret
      exact ⟨rfl, HT.out.2.2.2.2.2.2.trans (hS.mono HT.out.2.2.2.2.2.2.size)⟩

set_option maxRecDepth 100000 in
theorem lifted (os : Os) (started : os.Started) (H : Type) (enc : TypeId × Value → H) :
    ReturnsInHanded {} Try.checked os 12 .any (Rows.xtsTweaksSpec.pre6 enc Try.prog Try.f12 Rows.xtsTweaksRow.domain false) (Rows.xtsTweaksSpec.post enc Try.prog Try.f12 false true false false) := by
  refine returnsInHanded_of_change (C := Try.checked) own started (by kernel_rfl) Try.func12
    (ChangeSpec.witness6 (enc := enc) (C := Try.checked) false ⟨#[], #[.int .u64 0, .int .u64 0, .agg (Array.replicate 16 (.int .u8 0)), .agg (Array.replicate 16 (.int .u8 0))], []⟩ 8 (by kernel_rfl) (by kernel_rfl) (by kernel_rfl) (by kernel_rfl)) ?_
  intro W base args ds gs before hval0 hW hcnd _
  have hval : ∀ (j : Nat) t v, Try.f12.params[j]? = some t → args[j]? = some v → Value.okWide Try.prog W .any base t v := hval0
  have hW' := hW
  obtain ⟨p, q, hA0, hV, rfl, hfz, hnd⟩ := hW
  have hA : DataW.TrodAll enc Try.prog W 0 (fun _ => true) true Try.f12.params.toList args.toList ds p := hA0
  rw [Try.params12] at hA hval
  obtain ⟨v0, vs0, d0, ds0, p0, q0, hargs, rfl, rfl, h0, r0⟩ := trodAll_cons hA
  obtain ⟨v1, vs1, d1, ds1, p1, q1, rfl, rfl, rfl, h1, r1⟩ := trodAll_cons r0
  obtain ⟨v2, vs2, d2, ds2, p2, q2, rfl, rfl, rfl, h2, r2⟩ := trodAll_cons r1
  obtain ⟨v3, vs3, d3, ds3, p3, q3, rfl, rfl, rfl, h3, r3⟩ := trodAll_cons r2
  obtain ⟨rfl, rfl, rfl⟩ := trodAll_nil r3
  obtain rfl : args = #[v0, v1, v2, v3] := by cases args; simp_all
  obtain ⟨rfl, rfl⟩ := trodVars_none hV
  obtain ⟨a0, rfl, rfl, rfl, w0⟩ := open_int Try.underlying45 (hval 0 45 v0 rfl rfl) h0
  have b0 := bounds_u64 w0
  obtain ⟨a1, rfl, rfl, rfl, w1⟩ := open_int Try.underlying45 (hval 1 45 v1 rfl rfl) h1
  have b1 := bounds_u64 w1
  obtain ⟨x2, b2, rfl⟩ := open_arr u37 cellsOf37 (hval 2 37 v2 rfl rfl) h2
  obtain ⟨x3, b3, rfl⟩ := open_arr u37 cellsOf37 (hval 3 37 v3 rfl rfl) h3
  refine (walk a0 a1 x2 x3 b0 b1 b2 b3 W).mono fun e W' ⟨he, hb⟩ => ?_
  subst he
  exact ⟨_, rfl, law_post hW' rfl rfl rfl (by kernel_rfl) hb⟩

/-- The statement. -/
theorem proved : Rows.XtsTweaksSaid :=
  OpenClaim.holds_of_wide 12 Try.f12 rfl rfl rfl rfl rfl rfl rfl ⟨rfl, rfl, rfl, rfl, rfl⟩ rfl rfl rfl rfl rfl (by kernel_rfl) Try.func12 (by kernel_rfl)
    (of_decide_eq_true (by kernel_rfl)) (by unfold Func.isWrapper; first | (rw [if_pos (by decide +kernel)]; kernel_rfl) | (rw [if_neg (by decide +kernel)]; exact ⟨rfl, rfl⟩))
    (fun os started H enc _ => lifted os started H enc)
#print axioms proved
end Go.Proofs.Ytekffhopmicalaa.xtsTweaks
