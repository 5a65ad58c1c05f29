/-
  Contracts of the functions that the statements of package xts go through: blocks xor'ed, masks doubled, tweaks. Condition: the numbers are bytes.
-/
import Derived.Test.YtpkeofioobmmoaaDoorAeS
import Derived.Test.YtpkeofioobmmoaaDoorAeXtsM
namespace Go.Proofs.YtpkeofioobmmoaaDoor.ae
open Go.RowKit
set_option maxRecDepth 100000 in
set_option maxHeartbeats 2000000 in
theorem xjoined (b k : List Nat) (hb : Bts 16 b) (hk : Bts 16 k) (w : World) : Calls Tryd.prog 75 #[.agg (ncells b), .agg (ncells k)] w fun e w' => e = .returned (.agg (ncells (jn b k))) ∧ Below w.heap.size w w' := by
  have zz := zero47
  obtain ⟨Z, hZ⟩ : ∃ Z, Z = ncells (zeros 16) := ⟨_, rfl⟩
  rw [← hZ] at zz
  obtain ⟨J, hJ⟩ : ∃ J, J = jn b k := ⟨_, rfl⟩
  have hJl : J.length = 16 := by rw [hJ]; exact (jn_bts hb hk).1
  have IK := Lib.hid (i47 hk.1)
  have IJ := Lib.hid (i47 hJl)
  have ZJ : Hid (Z.size = (ncells J).size) := by show _ = _; rw [hZ]; exact z47 hJl
  have OJ := Lib.hid (none_ J)
  have HBL := Lib.hid hb.1
  have HBT : Hid (∀ i, at_ b i < 256) := hb.at_lt
  have HKT : Hid (∀ i, at_ k i < 256) := hk.at_lt
  have HKL := Lib.hid hk.1
  have HJT : Hid (∀ i, i < 16 → Nat.xor (at_ b i) (at_ k i) = at_ J i) := fun i hi => by rw [hJ, jn, tab_at _ _ _ hi]
  have UZ : Hid (upto 0 J b = b) := upto_zero hb.1
  have UA : Hid (upto 16 J b = J) := upto_all hJl
  rw [← hJ]
  have g1 : ((w.alloc (.cells (ncells b) 91)).alloc (.cells (ncells k) 91)).heap[w.heap.size + 1]? = some (.cells (ncells k) 91 (0, 0)) := heap_alloc2_new w _ _
  have G1 := Lib.hid (show (((w.alloc (.cells (ncells b) 91)).alloc (.cells (ncells k) 91)).alloc (.cells Z 91)).heap[w.heap.size + 1]? = some (.cells (ncells k) 91 (0, 0)) by rw [Below.heap_alloc _ _ _ (by simp)]; exact g1)
  clear hZ hJ hJl hb hk g1
  go_enter Tryd.func75, Tryd.ntmps75
  go_wp2_with (refine wpList_load_row rfl 91 (.tmp 3) rfl (w.heap.size + 1) rfl 91 (ncells k) (0, 0) _ G1.out Tryd.underlying91 rfl IK.out ?_)
  go_loopw [5, 6, 8] (fun _ _ vi wr => ∃ i : Nat, i ≤ 16 ∧ vi = .int .i64 i ∧ wr.heap[w.heap.size]? = some (.cells (ncells (upto i J b)) 91 (0, 0)) ∧ wr.heap[w.heap.size + 1 + 1]? = some (.cells Z 91 (0, 0)) ∧ Below w.heap.size w wr) (fun _ _ vi _ => 16 - (intOf vi).toNat)
  case atStart =>
    refine ⟨0, by omega, rfl, ?_, ?_, (((Below.refl _ _).alloc (Nat.le_refl _) _).alloc (by simp) _).alloc (by simp; omega) _⟩
    · rw [UZ.out, Below.heap_alloc _ _ _ (by simp; omega), Below.heap_alloc _ _ _ (by simp)]; exact heap_alloc_new w _
    · have := heap_alloc_new ((w.alloc (.cells (ncells b) 91)).alloc (.cells (ncells k) 91)) (.cells Z 91)
      simpa using this
  case round =>
    obtain ⟨i, hi, rfl, hg0, hg2, hbel⟩ := hrel
    by_cases hlt : i < 16
    · have c1 := cell_at hg0 (upto_len _ _ _) hlt
      rw [upto_at hlt (Nat.le_refl _)] at c1
      have f1 := frozen_of_row wr w.heap.size i _ 91 hg0
      have ix := idx47 k HKL.out i hlt
      have hx := xor8 (at_ b i) (at_ k i) (HBT.out i) (HKT.out i)
      rw [HJT.out i hlt] at hx
      have HX := Lib.hid hx
      have US := Lib.hid (upto_set (old := b) (at_ J i) rfl)
      have G0 := Lib.hid hg0
      have G2 := Lib.hid hg2
      have HB := Lib.hid hbel
      clear hg0 hg2 hbel hx
      generalize at_ b i = x at *
      generalize at_ k i = y at *
      go_wp2_with fail
      rw [HX.out]
      go_roundw
      case rel =>
        refine ⟨i + 1, by omega, by go_num, ?_, ?_, HB.out.setCell (by simp) _⟩
        · rw [heap_setCell_same _ _ _ _ _ _ G0.out, US.out]
        · rw [heap_setCell_other _ _ _ _ (by simp; omega)]; exact G2.out
      case measure => simp [intOf]; omega
    · obtain rfl : i = 16 := by omega
      rw [UA.out] at hg0
      have G0 := Lib.hid hg0
      have G2 := Lib.hid hg2
      have HB := Lib.hid hbel
      clear hg0 hg2 hbel
      go_wp2_with (first
        | (refine wpList_load_row rfl 91 (.tmp 2) rfl w.heap.size rfl 91 (ncells J) (0, 0) _ G0.out Tryd.underlying91 rfl IJ.out ?_)
        | (refine wpList_store_row rfl 91 (.tmp 4) (.tmp 19) rfl (w.heap.size + 1 + 1) (ncells J) rfl rfl 91 Z G2.out IJ.out ZJ.out OJ.out ?_))
      refine bodyPost_ret (v := .agg (ncells J)) (results_cell_row Tryd.results75 _ _ (w.heap.size + 1 + 1) 91 _ (0, 0) _ rfl (setRow_heap _ _ _ _ _ _ G2.out) Tryd.underlying91 rfl IJ.out) rfl ⟨rfl, ?_⟩
      exact HB.out.trans (below_row _ _ (by omega))
set_option maxRecDepth 100000 in
theorem lor_all : alln (fun a => alln (fun b => Nat.beq (Nat.lor (a * 2 % 256) (b / 128)) (Nat.xor (a * 2 % 256) (b / 128))) 256) 256 = true := by decide +kernel
set_option maxRecDepth 100000 in
theorem lor_xor {a b : Nat} (ha : a < 256) (hb : b < 256) : Nat.lor (a * 2 % 256) (b / 128) = Nat.xor (a * 2 % 256) (b / 128) := Nat.eq_of_beq_eq_true (alln_of (alln_of lor_all a ha) b hb)
/-- The digit that left the byte ahead. -/
def topd (m : List Nat) (i : Nat) : Nat := cond (Nat.beq i 0) 0 (at_ m (i - 1) / 128)
set_option maxRecDepth 100000 in
theorem topd_lt {m : List Nat} (hm : Bts 16 m) (i : Nat) : topd m i < 2 := by
  unfold topd
  cases Nat.beq i 0
  · have := hm.at_lt (i - 1); show at_ m (i - 1) / 128 < 2; omega
  · show 0 < 2; omega
set_option maxRecDepth 100000 in
theorem topd_succ (m : List Nat) (i : Nat) : topd m (i + 1) = at_ m i / 128 := rfl
set_option maxRecDepth 100000 in
theorem dbe_lor {m : List Nat} (hm : Bts 16 m) (i : Nat) : Nat.lor (at_ m i * 2 % 256) (topd m i) = dbe m i := by
  unfold topd dbe
  cases Nat.beq i 0
  · exact lor_xor (hm.at_lt i) (hm.at_lt (i - 1))
  · show Nat.lor (at_ m i * 2 % 256) 0 = Nat.xor (at_ m i * 2 % 256) 0
    rw [x0]
    exact Nat.or_zero _
set_option maxRecDepth 100000 in
theorem dbm_row {m : List Nat} : (fillr 16 (dbe m) 16).set 0 (Nat.xor (dbe m 0) (at_ m 15 / 128 * 135)) = dbm m := by
  apply List.ext_getElem
  · rw [List.length_set, fillr_len, dbm, tab_len]
  · intro j h1 h2
    rw [List.getElem_set]
    simp only [fillr, dbm, tab, List.getElem_map, List.getElem_range]
    by_cases e : 0 = j
    · subst e; rw [if_pos rfl]; rfl
    · rw [if_neg e]
      obtain ⟨k, rfl⟩ : ∃ k, j = k + 1 := ⟨j - 1, by omega⟩
      rw [if_pos (by rw [List.length_set, fillr_len] at h1; exact h1)]
      rfl
set_option maxRecDepth 100000 in
set_option maxHeartbeats 2000000 in
theorem doubleC (m : List Nat) (hm : Bts 16 m) (w : World) : Calls Tryd.prog 76 #[.agg (ncells m)] w fun e w' => e = .returned (.agg (ncells (dbm m))) ∧ Below w.heap.size w w' := by
  have zz := zero47
  obtain ⟨Z, hZ⟩ : ∃ Z, Z = ncells (zeros 16) := ⟨_, rfl⟩
  rw [← hZ] at zz
  obtain ⟨J, hJ⟩ : ∃ J, J = dbm m := ⟨_, rfl⟩
  have hJl : J.length = 16 := by rw [hJ]; exact (dbm_bts hm).1
  have IM := Lib.hid (i47 hm.1)
  have IJ := Lib.hid (i47 hJl)
  have ZJ : Hid (Z.size = (ncells J).size) := by show _ = _; rw [hZ]; exact z47 hJl
  have OJ := Lib.hid (none_ J)
  have HM := Lib.hid hm
  have UZ : Hid (ncells (fillr 16 (dbe m) 0) = Z) := by show _ = _; rw [hZ, fillr_zero]
  have UA : Hid ((ncells (fillr 16 (dbe m) 16)).setIfInBounds 0 (.int .u8 (Nat.xor (dbe m 0) (at_ m 15 / 128 * 135) : Nat)) = ncells J) := by show _ = _; rw [nset, dbm_row, hJ]
  obtain ⟨W0, hW0⟩ : ∃ W0, W0 = ((w.alloc (.cells (ncells m) 91)).alloc (.cells Z 91)).alloc (.cells Z 91) := ⟨_, rfl⟩
  have HB : Hid (Below w.heap.size w W0) := by rw [hW0]; exact (((Below.refl _ _).alloc (Nat.le_refl _) _).alloc (by simp) _).alloc (by simp <;> omega) _
  have G0 : Hid (W0.heap[w.heap.size]? = some (.cells (ncells m) 91 (0, 0))) := by show _ = _; rw [hW0, Below.heap_alloc _ _ _ (by simp <;> omega), Below.heap_alloc _ _ _ (by simp)]; exact heap_alloc_new w _
  have G1 : Hid (W0.heap[w.heap.size + 1]? = some (.cells Z 91 (0, 0))) := by show _ = _; rw [hW0, Below.heap_alloc _ _ _ (by simp)]; exact heap_alloc2_new w _ _
  have G2 : Hid (W0.heap[w.heap.size + 1 + 1]? = some (.cells Z 91 (0, 0))) := by
    show _ = _
    rw [hW0]
    have := heap_alloc_new ((w.alloc (.cells (ncells m) 91)).alloc (.cells Z 91)) (.cells Z 91)
    simpa using this
  have HW0 := Lib.hid hW0
  rw [← hJ]
  clear hZ hJ hJl hm hW0
  go_enter Tryd.func76, Tryd.ntmps76
  go_wp2_with (refine wpList_load_row rfl 91 (.tmp 1) rfl w.heap.size rfl 91 (ncells m) (0, 0) _ (by rw [← HW0.out]; exact G0.out) Tryd.underlying91 rfl IM.out ?_)
  rw [← HW0.out]
  go_loopw [4, 5, 6, 8] (fun vt _ _ vi wr => ∃ i : Nat, i ≤ 16 ∧ vi = .int .i64 i ∧ vt = .int .u8 (topd m i : Nat) ∧ wr.heap[w.heap.size + 1]? = some (.cells Z 91 (0, 0)) ∧ wr.heap[w.heap.size + 1 + 1]? = some (.cells (ncells (fillr 16 (dbe m) i)) 91 (0, 0)) ∧ Below w.heap.size w wr) (fun _ _ _ vi _ => 16 - (intOf vi).toNat)
  case atStart => exact ⟨0, by omega, rfl, rfl, G1.out, by rw [UZ.out]; exact G2.out, HB.out⟩
  case round =>
    clear G0 G1 G2 HB HW0
    obtain ⟨i, hi, rfl, rfl, hg1, hg2, hbel⟩ := hrel
    by_cases hlt : i < 16
    · have hi16 : (i : Int) < 16 := by omega
      have c2 := cell_at hg2 (fillr_len _ _ _) hlt
      have f2 := frozen_of_row wr (w.heap.size + 1 + 1) i _ 91 hg2
      have ix := idx47 m HM.out.1 i hlt
      have hx := or8 (at_ m i * 2 % 256) (topd m i) (Nat.mod_lt _ (by omega)) (by have := topd_lt HM.out i; omega)
      rw [dbe_lor HM.out i] at hx
      have hx' : bits .or .u8 ((at_ m i : Int) * 2 % 256) (topd m i : Int) = ((dbe m i : Nat) : Int) := by rw [← hx]; congr 1
      have HX := Lib.hid hx'
      have US := Lib.hid (fillr_set 16 (dbe m) i)
      have TS := Lib.hid (topd_succ m i)
      have xl := HM.out.at_lt i
      have tl := topd_lt HM.out i
      have G1 := Lib.hid hg1
      have G2 := Lib.hid hg2
      have HB := Lib.hid hbel
      clear hg1 hg2 hbel hx hx'
      generalize dbe m i = z at *
      generalize topd m i = t at *
      generalize at_ m i = x at *
      have xl' : (x : Int) < 256 := by omega
      go_wp2_with fail
      rw [HX.out]
      go_roundw
      case rel =>
        refine ⟨i + 1, by omega, by go_num, ?_, ?_, ?_, HB.out.setCell (by simp <;> omega) _⟩
        · rw [TS.out]; rfl
        · rw [heap_setCell_other _ _ _ _ (by simp)]; exact G1.out
        · rw [heap_setCell_same _ _ _ _ _ _ G2.out, US.out]
      case measure => simp [intOf]; omega
    · obtain rfl : i = 16 := by omega
      have c2 := cell_at hg2 (fillr_len _ _ _) (show 0 < 16 by omega)
      have e0 : at_ (fillr 16 (dbe m) 16) 0 = dbe m 0 := by rw [fillr, tab_at _ _ _ (by omega), if_pos (by omega)]
      rw [e0] at c2
      have f2 := frozen_of_row wr (w.heap.size + 1 + 1) 0 _ 91 hg2
      have tl := topd_lt HM.out 16
      have hx := xor8 (dbe m 0) (topd m 16 * 135) (dbe_lt HM.out 0) (by omega)
      have hx' : bits .xor .u8 (dbe m 0 : Int) ((topd m 16 : Int) * 135) = ((Nat.xor (dbe m 0) (topd m 16 * 135) : Nat) : Int) := by rw [← hx]; congr 1
      have UA2 : Hid ((ncells (fillr 16 (dbe m) 16)).setIfInBounds 0 (.int .u8 (Nat.xor (dbe m 0) (topd m 16 * 135) : Nat)) = ncells J) := UA.out
      have dl := dbe_lt HM.out 0
      have tl' : (topd m 16 : Int) < 2 := by omega
      have HX := Lib.hid hx'
      have G1 := Lib.hid hg1
      have G2 := Lib.hid hg2
      have HB := Lib.hid hbel
      clear hg1 hg2 hbel hx hx' e0 UA
      obtain ⟨z, hz⟩ : ∃ z, z = Nat.xor (dbe m 0) (topd m 16 * 135) := ⟨_, rfl⟩
      rw [← hz] at HX UA2
      clear hz
      generalize dbe m 0 = d at *
      generalize topd m 16 = t at *
      have G2' : Hid ((wr.setCell ⟨w.heap.size + 1 + 1, 0, none⟩ (.int .u8 (z : Nat))).heap[w.heap.size + 1 + 1]? = some (.cells (ncells J) 91 (0, 0))) := by
        show _ = _
        rw [heap_setCell_same _ _ _ _ _ _ G2.out, UA2.out]
      have G1' : Hid ((wr.setCell ⟨w.heap.size + 1 + 1, 0, none⟩ (.int .u8 (z : Nat))).heap[w.heap.size + 1]? = some (.cells Z 91 (0, 0))) := by
        show _ = _
        rw [heap_setCell_other _ _ _ _ (by simp)]; exact G1.out
      have HB' : Hid (Below w.heap.size w (wr.setCell ⟨w.heap.size + 1 + 1, 0, none⟩ (.int .u8 (z : Nat)))) := HB.out.setCell (by simp <;> omega) _
      have hx := HX.out
      clear HX G1 G2 HB UA2
      go_wp2_with (first
        | (refine wpList_load_row rfl 91 (.tmp 3) rfl (w.heap.size + 1 + 1) rfl 91 (ncells J) (0, 0) _ G2'.out Tryd.underlying91 rfl IJ.out ?_)
        | (refine wpList_store_row rfl 91 (.tmp 2) (.tmp 27) rfl (w.heap.size + 1) (ncells J) rfl rfl 91 Z G1'.out IJ.out ZJ.out OJ.out ?_))
      refine bodyPost_ret (v := .agg (ncells J)) (results_cell_row Tryd.results76 _ _ (w.heap.size + 1) 91 _ (0, 0) _ rfl (setRow_heap _ _ _ _ _ _ G1'.out) Tryd.underlying91 rfl IJ.out) rfl ⟨rfl, ?_⟩
      exact HB'.out.trans (below_row _ _ (by omega))
set_option maxRecDepth 100000 in
/-- The tweak, filled so far. -/
theorem twk_row (s : Nat) : fillr 16 (fun i => s / 2 ^ (8 * i) % 256) 8 = twk s := by
  refine bts_ext' (fillr_len _ _ _) (tab_len _ _) fun i hi => ?_
  rw [fillr, tab_at _ _ _ hi, twk, tab_at _ _ _ hi]
  by_cases h : i < 8
  · rw [if_pos h, show Nat.blt i 8 = true from Nat.ble_eq_true_of_le h]; rfl
  · rw [if_neg h, show Nat.blt i 8 = false from Bool.eq_false_iff.2 (fun e => h (Nat.le_of_ble_eq_true e))]; rfl
set_option maxRecDepth 100000 in
set_option maxHeartbeats 2000000 in
theorem tweakC (s : Nat) (w : World) : Calls Tryd.prog 50 #[.int .u64 s] w fun e w' => e = .returned (.agg (ncells (twk s))) ∧ Below w.heap.size w w' := by
  have zz := zero47
  obtain ⟨Z, hZ⟩ : ∃ Z, Z = ncells (zeros 16) := ⟨_, rfl⟩
  rw [← hZ] at zz
  obtain ⟨J, hJ⟩ : ∃ J, J = twk s := ⟨_, rfl⟩
  have hJl : J.length = 16 := by rw [hJ]; exact (twk_bts s).1
  have IJ := Lib.hid (i47 hJl)
  have ZJ : Hid (Z.size = (ncells J).size) := by show _ = _; rw [hZ]; exact z47 hJl
  have OJ := Lib.hid (none_ J)
  have UZ : Hid (ncells (fillr 16 (fun i => s / 2 ^ (8 * i) % 256) 0) = Z) := by show _ = _; rw [hZ, fillr_zero]
  have UA : Hid (fillr 16 (fun i => s / 2 ^ (8 * i) % 256) 8 = J) := by show _ = _; rw [hJ, twk_row]
  rw [← hJ]
  clear hZ hJ hJl
  go_enter Tryd.func50, Tryd.ntmps50
  go_wp2_with fail
  go_loopw [4, 5] (fun _ vi wr => ∃ i : Nat, i ≤ 8 ∧ vi = .int .i64 i ∧ wr.heap[w.heap.size]? = some (.cells Z 91 (0, 0)) ∧ wr.heap[w.heap.size + 1]? = some (.cells (ncells (fillr 16 (fun i => s / 2 ^ (8 * i) % 256) i)) 91 (0, 0)) ∧ Below w.heap.size w wr) (fun _ vi _ => 8 - (intOf vi).toNat)
  case atStart =>
    refine ⟨0, by omega, rfl, ?_, ?_, ((Below.refl _ _).alloc (Nat.le_refl _) _).alloc (by simp) _⟩
    · rw [Below.heap_alloc _ _ _ (by simp)]; exact heap_alloc_new w _
    · rw [UZ.out]; exact heap_alloc2_new w _ _
  case round =>
    obtain ⟨i, hi, rfl, hg1, hg2, hbel⟩ := hrel
    by_cases hlt : i < 8
    · have hi8 : (i : Int) < 8 := by omega
      have c2 := cell_at hg2 (fillr_len _ _ _) (show i < 16 by omega)
      have f2 := frozen_of_row wr (w.heap.size + 1) i _ 91 hg2
      have US := Lib.hid (fillr_set 16 (fun i => s / 2 ^ (8 * i) % 256) i)
      have G1 := Lib.hid hg1
      have G2 := Lib.hid hg2
      have HB := Lib.hid hbel
      clear hg1 hg2 hbel
      generalize at_ (fillr 16 (fun i => s / 2 ^ (8 * i) % 256) i) i = y at *
      have e : (s : Int) / 2 ^ (8 * i) % 256 = ((s / 2 ^ (8 * i) % 256 : Nat) : Int) := by push_cast; rfl
      have EE := Lib.hid e
      clear e
      go_wp2_with fail
      rw [EE.out]
      go_roundw
      case rel =>
        refine ⟨i + 1, by omega, by go_num, ?_, ?_, HB.out.setCell (by simp <;> omega) _⟩
        · rw [heap_setCell_other _ _ _ _ (by simp)]; exact G1.out
        · rw [heap_setCell_same _ _ _ _ _ _ G2.out, US.out]
      case measure => simp [intOf]; omega
    · obtain rfl : i = 8 := by omega
      rw [UA.out] at hg2
      have G1 := Lib.hid hg1
      have G2 := Lib.hid hg2
      have HB := Lib.hid hbel
      clear hg1 hg2 hbel
      go_wp2_with (first
        | (refine wpList_load_row rfl 91 (.tmp 3) rfl (w.heap.size + 1) rfl 91 (ncells J) (0, 0) _ G2.out Tryd.underlying91 rfl IJ.out ?_)
        | (refine wpList_store_row rfl 91 (.tmp 2) (.tmp 16) rfl w.heap.size (ncells J) rfl rfl 91 Z G1.out IJ.out ZJ.out OJ.out ?_))
      refine bodyPost_ret (v := .agg (ncells J)) (results_cell_row Tryd.results50 _ _ w.heap.size 91 _ (0, 0) _ rfl (setRow_heap _ _ _ _ _ _ G1.out) Tryd.underlying91 rfl IJ.out) rfl ⟨rfl, ?_⟩
      exact HB.out.trans (below_row _ _ (by omega))
end Go.Proofs.YtpkeofioobmmoaaDoor.ae
