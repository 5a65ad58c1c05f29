/-
  Contracts of the functions that the statements of package aes go through: a block xor'ed, moved, replaced by a table. Condition: the numbers are bytes.
-/
import Derived.Test.YtpkeofioobmmoaaGreatDoorAeAesK
import Derived.Test.YtpkeofioobmmoaaGreatDoorAeC
namespace Go.Proofs.YtpkeofioobmmoaaGreatDoor.ae
open Go.RowKit
theorem zero47 : ∀ w, (zeroValue 77).run Tryz.prog w = .ok (.agg (ncells (zeros 16))) w := fun _ => by kernel_rfl
theorem info47 : (Tryz.prog.info? 77).map (·.size) = some 16 := by kernel_rfl
theorem i47 {b : List Nat} (h : b.length = 16) : (Tryz.prog.info? 77).map (·.size) = some (ncells b).size := by rw [info47, nsize, h]
theorem z47 {b : List Nat} (h : b.length = 16) : (ncells (zeros 16)).size = (ncells b).size := by rw [nsize, nsize, zeros_len, h]
theorem idx47 (P : List Nat) (hP : P.length = 16) (k : Nat) (hk : k < 16) (w : World) : (Instr.index 77 (.agg (ncells P)) (.int .i64 k)).run Tryz.prog w = .ok (.int .u8 (at_ P k : Nat)) w := by
  have hs : (ncells P).size = 16 := by rw [nsize, hP]
  simp [Instr.index, run_underlying Tryz.underlying77, asIntOf, part, hk, hs]
  simp [ncells, hP, hk, at_]
theorem cell_at {w : World} {g k n : Nat} {b : List Nat} {t : TypeId} {fr : Nat × Nat} (h : w.heap[g]? = some (.cells (ncells b) t fr)) (hl : b.length = n) (hk : k < n) : w.cell? ⟨g, k, none⟩ = some (.int .u8 (at_ b k : Nat)) :=
  (cell_of_row _ _ k _ _ _ h).trans (ncell b k (by omega))
/-- The first i places are made, the others as they were. -/
def upto (i : Nat) (new old : List Nat) : List Nat := tab 16 fun j => if j < i then at_ new j else at_ old j
theorem upto_len (i : Nat) (new old : List Nat) : (upto i new old).length = 16 := tab_len _ _
theorem upto_zero {new old : List Nat} (h : old.length = 16) : upto 0 new old = old := by
  unfold upto
  refine Eq.trans (tab_congr fun j _ => by rw [if_neg (by omega)]) (tab_self 16 old h)
theorem upto_all {new old : List Nat} (h : new.length = 16) : upto 16 new old = new := by
  unfold upto
  refine Eq.trans (tab_congr fun j hj => by rw [if_pos hj]) (tab_self 16 new h)
theorem upto_at {i k : Nat} {new old : List Nat} (hk : k < 16) (h : i ≤ k) : at_ (upto i new old) k = at_ old k := by
  unfold upto
  rw [tab_at _ _ _ hk, if_neg (by omega)]
theorem upto_set {i : Nat} {new old : List Nat} (x : Nat) (hx : x = at_ new i) : (ncells (upto i new old)).setIfInBounds i (.int .u8 (x : Nat)) = ncells (upto (i + 1) new old) := by
  rw [nset, hx]
  congr 1
  apply List.ext_getElem
  · rw [List.length_set, upto_len, upto_len]
  · intro j h1 h2
    rw [List.getElem_set]
    simp only [upto, tab, List.getElem_map, List.getElem_range]
    by_cases e : i = j
    · subst e; rw [if_pos rfl, if_pos (by omega)]
    · rw [if_neg e]
      by_cases c : j < i
      · rw [if_pos c, if_pos (by omega)]
      · rw [if_neg c, if_neg (by omega)]
set_option maxRecDepth 100000 in
set_option maxHeartbeats 2000000 in
theorem joined (b k : List Nat) (hb : Bts 16 b) (hk : Bts 16 k) (w : World) : Calls Tryz.prog 63 #[.agg (ncells b), .agg (ncells k)] w fun e w' => e = .returned (.agg (ncells (jn b k))) ∧ Below w.heap.size w w' := by
  have zz := zero47
  obtain ⟨Z, hZ⟩ : ∃ Z, Z = ncells (zeros 16) := ⟨_, rfl⟩
  rw [← hZ] at zz
  obtain ⟨J, hJ⟩ : ∃ J, J = jn b k := ⟨_, rfl⟩
  have hJl : J.length = 16 := by rw [hJ]; exact (jn_bts hb hk).1
  have IK := Lib.hid (i47 hk.1)
  have IJ := Lib.hid (i47 hJl)
  have ZJ : Hid (Z.size = (ncells J).size) := by show _ = _; rw [hZ]; exact z47 hJl
  have OJ := Lib.hid (none_ J)
  have HBL := Lib.hid hb.1
  have HBT : Hid (∀ i, at_ b i < 256) := hb.at_lt
  have HKT : Hid (∀ i, at_ k i < 256) := hk.at_lt
  have HKL := Lib.hid hk.1
  have HJT : Hid (∀ i, i < 16 → Nat.xor (at_ b i) (at_ k i) = at_ J i) := fun i hi => by rw [hJ, jn, tab_at _ _ _ hi]
  have UZ : Hid (upto 0 J b = b) := upto_zero hb.1
  have UA : Hid (upto 16 J b = J) := upto_all hJl
  rw [← hJ]
  have g1 : ((w.alloc (.cells (ncells b) 77)).alloc (.cells (ncells k) 77)).heap[w.heap.size + 1]? = some (.cells (ncells k) 77 (0, 0)) := heap_alloc2_new w _ _
  have G1 := Lib.hid (show (((w.alloc (.cells (ncells b) 77)).alloc (.cells (ncells k) 77)).alloc (.cells Z 77)).heap[w.heap.size + 1]? = some (.cells (ncells k) 77 (0, 0)) by rw [Below.heap_alloc _ _ _ (by simp)]; exact g1)
  clear hZ hJ hJl hb hk g1
  go_enter Tryz.func63, Tryz.ntmps63
  go_wp2_with (refine wpList_load_row rfl 77 (.tmp 3) rfl (w.heap.size + 1) rfl 77 (ncells k) (0, 0) _ G1.out Tryz.underlying77 rfl IK.out ?_)
  go_loopw [5, 6, 8] (fun _ _ vi wr => ∃ i : Nat, i ≤ 16 ∧ vi = .int .i64 i ∧ wr.heap[w.heap.size]? = some (.cells (ncells (upto i J b)) 77 (0, 0)) ∧ wr.heap[w.heap.size + 1 + 1]? = some (.cells Z 77 (0, 0)) ∧ Below w.heap.size w wr) (fun _ _ vi _ => 16 - (intOf vi).toNat)
  case atStart =>
    refine ⟨0, by omega, rfl, ?_, ?_, (((Below.refl _ _).alloc (Nat.le_refl _) _).alloc (by simp) _).alloc (by simp; omega) _⟩
    · rw [UZ.out, Below.heap_alloc _ _ _ (by simp; omega), Below.heap_alloc _ _ _ (by simp)]; exact heap_alloc_new w _
    · have := heap_alloc_new ((w.alloc (.cells (ncells b) 77)).alloc (.cells (ncells k) 77)) (.cells Z 77)
      simpa using this
  case round =>
    obtain ⟨i, hi, rfl, hg0, hg2, hbel⟩ := hrel
    by_cases hlt : i < 16
    · have c1 := cell_at hg0 (upto_len _ _ _) hlt
      rw [upto_at hlt (Nat.le_refl _)] at c1
      have f1 := frozen_of_row wr w.heap.size i _ 77 hg0
      have ix := idx47 k HKL.out i hlt
      have hx := xor8 (at_ b i) (at_ k i) (HBT.out i) (HKT.out i)
      rw [HJT.out i hlt] at hx
      have HX := Lib.hid hx
      have US := Lib.hid (upto_set (old := b) (at_ J i) rfl)
      have G0 := Lib.hid hg0
      have G2 := Lib.hid hg2
      have HB := Lib.hid hbel
      clear hg0 hg2 hbel hx
      generalize at_ b i = x at *
      generalize at_ k i = y at *
      go_wp2_with fail
      rw [HX.out]
      go_roundw
      case rel =>
        refine ⟨i + 1, by omega, by go_num, ?_, ?_, HB.out.setCell (by simp) _⟩
        · rw [heap_setCell_same _ _ _ _ _ _ G0.out, US.out]
        · rw [heap_setCell_other _ _ _ _ (by simp; omega)]; exact G2.out
      case measure => simp [intOf]; omega
    · obtain rfl : i = 16 := by omega
      rw [UA.out] at hg0
      have G0 := Lib.hid hg0
      have G2 := Lib.hid hg2
      have HB := Lib.hid hbel
      clear hg0 hg2 hbel
      go_wp2_with (first
        | (refine wpList_load_row rfl 77 (.tmp 2) rfl w.heap.size rfl 77 (ncells J) (0, 0) _ G0.out Tryz.underlying77 rfl IJ.out ?_)
        | (refine wpList_store_row rfl 77 (.tmp 4) (.tmp 19) rfl (w.heap.size + 1 + 1) (ncells J) rfl rfl 77 Z G2.out IJ.out ZJ.out OJ.out ?_))
      refine bodyPost_ret (v := .agg (ncells J)) (results_cell_row Tryz.results63 _ _ (w.heap.size + 1 + 1) 77 _ (0, 0) _ rfl (setRow_heap _ _ _ _ _ _ G2.out) Tryz.underlying77 rfl IJ.out) rfl ⟨rfl, ?_⟩
      exact HB.out.trans (below_row _ _ (by omega))
set_option maxRecDepth 100000 in
set_option maxHeartbeats 2000000 in
theorem moved1 (b : List Nat) (hb : Bts 16 b) (w : World) : Calls Tryz.prog 66 #[.agg (ncells b), .int .i64 1] w fun e w' => e = .returned (.agg (ncells (mv 1 b))) ∧ Below w.heap.size w w' := by
  have zz := zero47
  obtain ⟨Z, hZ⟩ : ∃ Z, Z = ncells (zeros 16) := ⟨_, rfl⟩
  rw [← hZ] at zz
  obtain ⟨J, hJ⟩ : ∃ J, J = mv 1 b := ⟨_, rfl⟩
  have hJl : J.length = 16 := by rw [hJ]; exact (mv_bts 1 hb).1
  have IJ := Lib.hid (i47 hJl)
  have ZJ : Hid (Z.size = (ncells J).size) := by show _ = _; rw [hZ]; exact z47 hJl
  have OJ := Lib.hid (none_ J)
  have HBL := Lib.hid hb.1
  have HJT : Hid (∀ i, i < 16 → at_ b ((i + 4 * 1 * (i % 4)) % 16) = at_ J i) := fun i hi => by rw [hJ, mv, tab_at _ _ _ hi]
  have UZ : Hid (ncells (upto 0 J (zeros 16)) = Z) := by show _ = _; rw [hZ, upto_zero (zeros_len 16)]
  have UA : Hid (upto 16 J (zeros 16) = J) := upto_all hJl
  rw [← hJ]
  clear hZ hJ hJl hb
  go_enter Tryz.func66, Tryz.ntmps66
  go_wp2_with fail
  go_loopw [6, 7, 8] (fun _ _ vi wr => ∃ i : Nat, i ≤ 16 ∧ vi = .int .i64 i ∧ wr.heap[w.heap.size]? = some (.cells (ncells b) 77 (0, 0)) ∧ wr.heap[w.heap.size + 1]? = some (.cells Z 77 (0, 0)) ∧ wr.heap[w.heap.size + 1 + 1]? = some (.cells (ncells (upto i J (zeros 16))) 77 (0, 0)) ∧ Below w.heap.size w wr) (fun _ _ vi _ => 16 - (intOf vi).toNat)
  case atStart =>
    refine ⟨0, by omega, rfl, ?_, ?_, ?_, (((Below.refl _ _).alloc (Nat.le_refl _) _).alloc (by simp) _).alloc (by simp; omega) _⟩
    · rw [Below.heap_alloc _ _ _ (by simp; omega), Below.heap_alloc _ _ _ (by simp)]; exact heap_alloc_new w _
    · rw [Below.heap_alloc _ _ _ (by simp)]; exact heap_alloc2_new w _ _
    · rw [UZ.out]
      have := heap_alloc_new ((w.alloc (.cells (ncells b) 77)).alloc (.cells Z 77)) (.cells Z 77)
      simpa using this
  case round =>
    obtain ⟨i, hi, rfl, hg0, hg1, hg2, hbel⟩ := hrel
    by_cases hlt : i < 16
    · obtain ⟨r, hr⟩ : ∃ r, r = (i + 4 * 1 * (i % 4)) % 16 := ⟨_, rfl⟩
      have hr16 : r < 16 := by omega
      have hrz : ((i : Int) + 4 * ((i : Int) % 4)) % 16 = (r : Int) := by omega
      have c1 := cell_at hg0 HBL.out hr16
      have hJi := HJT.out i hlt
      rw [← hr] at hJi
      rw [hJi] at c1
      have c2 := cell_at hg2 (upto_len _ _ _) hlt
      have f2 := frozen_of_row wr (w.heap.size + 1 + 1) i _ 77 hg2
      have US := Lib.hid (upto_set (old := zeros 16) (at_ J i) rfl)
      have G0 := Lib.hid hg0
      have G1 := Lib.hid hg1
      have G2 := Lib.hid hg2
      have HB := Lib.hid hbel
      clear hg0 hg1 hg2 hbel hr hJi
      generalize at_ (upto i J (zeros 16)) i = y at *
      go_wp2_with fail
      go_roundw
      case rel =>
        refine ⟨i + 1, by omega, by go_num, ?_, ?_, ?_, HB.out.setCell (by simp; omega) _⟩
        · rw [heap_setCell_other _ _ _ _ (by simp; omega)]; exact G0.out
        · rw [heap_setCell_other _ _ _ _ (by simp)]; exact G1.out
        · rw [heap_setCell_same _ _ _ _ _ _ G2.out, US.out]
      case measure => simp [intOf]; omega
    · obtain rfl : i = 16 := by omega
      rw [UA.out] at hg2
      have G1 := Lib.hid hg1
      have G2 := Lib.hid hg2
      have HB := Lib.hid hbel
      clear hg0 hg1 hg2 hbel
      go_wp2_with (first
        | (refine wpList_load_row rfl 77 (.tmp 5) rfl (w.heap.size + 1 + 1) rfl 77 (ncells J) (0, 0) _ G2.out Tryz.underlying77 rfl IJ.out ?_)
        | (refine wpList_store_row rfl 77 (.tmp 4) (.tmp 25) rfl (w.heap.size + 1) (ncells J) rfl rfl 77 Z G1.out IJ.out ZJ.out OJ.out ?_))
      refine bodyPost_ret (v := .agg (ncells J)) (results_cell_row Tryz.results66 _ _ (w.heap.size + 1) 77 _ (0, 0) _ rfl (setRow_heap _ _ _ _ _ _ G1.out) Tryz.underlying77 rfl IJ.out) rfl ⟨rfl, ?_⟩
      exact HB.out.trans (below_row _ _ (by omega))
set_option maxRecDepth 100000 in
set_option maxHeartbeats 2000000 in
theorem moved3 (b : List Nat) (hb : Bts 16 b) (w : World) : Calls Tryz.prog 66 #[.agg (ncells b), .int .i64 3] w fun e w' => e = .returned (.agg (ncells (mv 3 b))) ∧ Below w.heap.size w w' := by
  have zz := zero47
  obtain ⟨Z, hZ⟩ : ∃ Z, Z = ncells (zeros 16) := ⟨_, rfl⟩
  rw [← hZ] at zz
  obtain ⟨J, hJ⟩ : ∃ J, J = mv 3 b := ⟨_, rfl⟩
  have hJl : J.length = 16 := by rw [hJ]; exact (mv_bts 3 hb).1
  have IJ := Lib.hid (i47 hJl)
  have ZJ : Hid (Z.size = (ncells J).size) := by show _ = _; rw [hZ]; exact z47 hJl
  have OJ := Lib.hid (none_ J)
  have HBL := Lib.hid hb.1
  have HJT : Hid (∀ i, i < 16 → at_ b ((i + 4 * 3 * (i % 4)) % 16) = at_ J i) := fun i hi => by rw [hJ, mv, tab_at _ _ _ hi]
  have UZ : Hid (ncells (upto 0 J (zeros 16)) = Z) := by show _ = _; rw [hZ, upto_zero (zeros_len 16)]
  have UA : Hid (upto 16 J (zeros 16) = J) := upto_all hJl
  rw [← hJ]
  clear hZ hJ hJl hb
  go_enter Tryz.func66, Tryz.ntmps66
  go_wp2_with fail
  go_loopw [6, 7, 8] (fun _ _ vi wr => ∃ i : Nat, i ≤ 16 ∧ vi = .int .i64 i ∧ wr.heap[w.heap.size]? = some (.cells (ncells b) 77 (0, 0)) ∧ wr.heap[w.heap.size + 1]? = some (.cells Z 77 (0, 0)) ∧ wr.heap[w.heap.size + 1 + 1]? = some (.cells (ncells (upto i J (zeros 16))) 77 (0, 0)) ∧ Below w.heap.size w wr) (fun _ _ vi _ => 16 - (intOf vi).toNat)
  case atStart =>
    refine ⟨0, by omega, rfl, ?_, ?_, ?_, (((Below.refl _ _).alloc (Nat.le_refl _) _).alloc (by simp) _).alloc (by simp; omega) _⟩
    · rw [Below.heap_alloc _ _ _ (by simp; omega), Below.heap_alloc _ _ _ (by simp)]; exact heap_alloc_new w _
    · rw [Below.heap_alloc _ _ _ (by simp)]; exact heap_alloc2_new w _ _
    · rw [UZ.out]
      have := heap_alloc_new ((w.alloc (.cells (ncells b) 77)).alloc (.cells Z 77)) (.cells Z 77)
      simpa using this
  case round =>
    obtain ⟨i, hi, rfl, hg0, hg1, hg2, hbel⟩ := hrel
    by_cases hlt : i < 16
    · obtain ⟨r, hr⟩ : ∃ r, r = (i + 4 * 3 * (i % 4)) % 16 := ⟨_, rfl⟩
      have hr16 : r < 16 := by omega
      have hrz : ((i : Int) + 12 * ((i : Int) % 4)) % 16 = (r : Int) := by omega
      have c1 := cell_at hg0 HBL.out hr16
      have hJi := HJT.out i hlt
      rw [← hr] at hJi
      rw [hJi] at c1
      have c2 := cell_at hg2 (upto_len _ _ _) hlt
      have f2 := frozen_of_row wr (w.heap.size + 1 + 1) i _ 77 hg2
      have US := Lib.hid (upto_set (old := zeros 16) (at_ J i) rfl)
      have G0 := Lib.hid hg0
      have G1 := Lib.hid hg1
      have G2 := Lib.hid hg2
      have HB := Lib.hid hbel
      clear hg0 hg1 hg2 hbel hr hJi
      generalize at_ (upto i J (zeros 16)) i = y at *
      go_wp2_with fail
      go_roundw
      case rel =>
        refine ⟨i + 1, by omega, by go_num, ?_, ?_, ?_, HB.out.setCell (by simp; omega) _⟩
        · rw [heap_setCell_other _ _ _ _ (by simp; omega)]; exact G0.out
        · rw [heap_setCell_other _ _ _ _ (by simp)]; exact G1.out
        · rw [heap_setCell_same _ _ _ _ _ _ G2.out, US.out]
      case measure => simp [intOf]; omega
    · obtain rfl : i = 16 := by omega
      rw [UA.out] at hg2
      have G1 := Lib.hid hg1
      have G2 := Lib.hid hg2
      have HB := Lib.hid hbel
      clear hg0 hg1 hg2 hbel
      go_wp2_with (first
        | (refine wpList_load_row rfl 77 (.tmp 5) rfl (w.heap.size + 1 + 1) rfl 77 (ncells J) (0, 0) _ G2.out Tryz.underlying77 rfl IJ.out ?_)
        | (refine wpList_store_row rfl 77 (.tmp 4) (.tmp 25) rfl (w.heap.size + 1) (ncells J) rfl rfl 77 Z G1.out IJ.out ZJ.out OJ.out ?_))
      refine bodyPost_ret (v := .agg (ncells J)) (results_cell_row Tryz.results66 _ _ (w.heap.size + 1) 77 _ (0, 0) _ rfl (setRow_heap _ _ _ _ _ _ G1.out) Tryz.underlying77 rfl IJ.out) rfl ⟨rfl, ?_⟩
      exact HB.out.trans (below_row _ _ (by omega))
set_option maxRecDepth 100000 in
set_option maxHeartbeats 2000000 in
theorem replaced (b t : List Nat) (hb : Bts 16 b) (ht : Bts 256 t) (g o : Nat) (w : World) (hc : ∀ j, j < 256 → w.cell? ⟨g, o + j, none⟩ = some (.int .u8 (at_ t j : Nat))) : Calls Tryz.prog 65 #[.agg (ncells b), .pointer (some ⟨g, o, none⟩)] w fun e w' => e = .returned (.agg (ncells (sb t b))) ∧ Below w.heap.size w w' := by
  have zz := zero47
  obtain ⟨Z, hZ⟩ : ∃ Z, Z = ncells (zeros 16) := ⟨_, rfl⟩
  rw [← hZ] at zz
  obtain ⟨J, hJ⟩ : ∃ J, J = sb t b := ⟨_, rfl⟩
  have hJl : J.length = 16 := by rw [hJ]; exact (sb_bts ht).1
  have IB := Lib.hid (i47 hb.1)
  have IJ := Lib.hid (i47 hJl)
  have ZJ : Hid (Z.size = (ncells J).size) := by show _ = _; rw [hZ]; exact z47 hJl
  have OJ := Lib.hid (none_ J)
  have HBL := Lib.hid hb.1
  have HBT : Hid (∀ i, at_ b i < 256) := hb.at_lt
  have HJT : Hid (∀ i, i < 16 → at_ t (at_ b i) = at_ J i) := fun i hi => by rw [hJ, sb, tab_at _ _ _ hi]
  have UZ : Hid (upto 0 J b = b) := upto_zero hb.1
  have UA : Hid (upto 16 J b = J) := upto_all hJl
  have lg : Hid (g < w.heap.size) := World.block_lt_of_cell? w _ (hc 0 (by omega))
  have HC := Lib.hid hc
  have GA := Lib.hid (heap_alloc_new w (.cells (ncells b) 77))
  have GB := Lib.hid (show ((w.alloc (.cells (ncells b) 77)).alloc (.cells Z 77)).heap[w.heap.size]? = some (.cells (ncells b) 77 (0, 0)) by rw [Below.heap_alloc _ _ _ (by simp)]; exact heap_alloc_new w _)
  rw [← hJ]
  clear hZ hJ hJl hb ht hc
  go_enter Tryz.func65, Tryz.ntmps65
  go_wp2_with (refine wpList_load_row rfl 77 (.tmp 2) rfl w.heap.size rfl 77 (ncells b) (0, 0) _ GB.out Tryz.underlying77 rfl IB.out ?_)
  go_loopw [5, 6, 8] (fun _ _ vi wr => ∃ i : Nat, i ≤ 16 ∧ vi = .int .i64 i ∧ wr.heap[w.heap.size]? = some (.cells (ncells (upto i J b)) 77 (0, 0)) ∧ wr.heap[w.heap.size + 1]? = some (.cells Z 77 (0, 0)) ∧ Below w.heap.size w wr) (fun _ _ vi _ => 16 - (intOf vi).toNat)
  case atStart =>
    refine ⟨0, by omega, rfl, by rw [UZ.out]; exact GB.out, heap_alloc2_new w _ _, ((Below.refl _ _).alloc (Nat.le_refl _) _).alloc (by simp) _⟩
  case round =>
    obtain ⟨i, hi, rfl, hg0, hg2, hbel⟩ := hrel
    by_cases hlt : i < 16
    · have c1 := cell_at hg0 (upto_len _ _ _) hlt
      rw [upto_at hlt (Nat.le_refl _)] at c1
      have f1 := frozen_of_row wr w.heap.size i _ 77 hg0
      have ix := idx47 b HBL.out i hlt
      have hx := HBT.out i
      have ct := (hbel.cell (p := ⟨g, o + at_ b i, none⟩) lg.out).trans (HC.out (at_ b i) hx)
      rw [HJT.out i hlt] at ct
      have hxi : (at_ b i : Int) < 256 := by omega
      have US := Lib.hid (upto_set (old := b) (at_ J i) rfl)
      have G0 := Lib.hid hg0
      have G2 := Lib.hid hg2
      have HB := Lib.hid hbel
      clear hg0 hg2 hbel
      generalize at_ b i = x at *
      go_wp2_with fail
      go_roundw
      case rel =>
        refine ⟨i + 1, by omega, by go_num, ?_, ?_, HB.out.setCell (by simp) _⟩
        · rw [heap_setCell_same _ _ _ _ _ _ G0.out, US.out]
        · rw [heap_setCell_other _ _ _ _ (by simp)]; exact G2.out
      case measure => simp [intOf]; omega
    · obtain rfl : i = 16 := by omega
      rw [UA.out] at hg0
      have G0 := Lib.hid hg0
      have G2 := Lib.hid hg2
      have HB := Lib.hid hbel
      clear hg0 hg2 hbel
      go_wp2_with (first
        | (refine wpList_load_row rfl 77 (.tmp 2) rfl w.heap.size rfl 77 (ncells J) (0, 0) _ G0.out Tryz.underlying77 rfl IJ.out ?_)
        | (refine wpList_store_row rfl 77 (.tmp 4) (.tmp 20) rfl (w.heap.size + 1) (ncells J) rfl rfl 77 Z G2.out IJ.out ZJ.out OJ.out ?_))
      refine bodyPost_ret (v := .agg (ncells J)) (results_cell_row Tryz.results65 _ _ (w.heap.size + 1) 77 _ (0, 0) _ rfl (setRow_heap _ _ _ _ _ _ G2.out) Tryz.underlying77 rfl IJ.out) rfl ⟨rfl, ?_⟩
      exact HB.out.trans (below_row _ _ (by omega))
end Go.Proofs.YtpkeofioobmmoaaGreatDoor.ae
