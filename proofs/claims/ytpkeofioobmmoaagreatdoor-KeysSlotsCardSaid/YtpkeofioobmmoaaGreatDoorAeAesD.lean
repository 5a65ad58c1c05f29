/-
  Contracts of the functions that the statements of package aes go through: what is xor'ed into a word; the closure that multiplies columns. Condition: the numbers are bytes.
-/
import Derived.Test.YtpkeofioobmmoaaGreatDoorAeAesC
namespace Go.Proofs.YtpkeofioobmmoaaGreatDoor.ae
open Go.RowKit
theorem columns (x : Option Addr) (l c : Nat) (w : World) : Calls Tryz.prog 62 #[.slice x l c] w fun e w' => e = .returned (.func (.func 84) #[] #[.pointer (some ⟨w.heap.size, 0, none⟩)]) ∧ w.alloc (.cells #[.slice x l c] 31) = w' := by
  go_enter Tryz.func62, Tryz.ntmps62
  go_wp2
  go_ret
  exact ⟨rfl, rfl⟩
theorem zero40 : ∀ w, (zeroValue 81).run Tryz.prog w = .ok (.agg (ncells (zeros 4))) w := fun _ => by kernel_rfl
theorem info40 : (Tryz.prog.info? 81).map (·.size) = some 4 := by kernel_rfl
theorem i40 {b : List Nat} (h : b.length = 4) : (Tryz.prog.info? 81).map (·.size) = some (ncells b).size := by rw [info40, nsize, h]
theorem z40 {b : List Nat} (h : b.length = 4) : (ncells (zeros 4)).size = (ncells b).size := by rw [nsize, nsize, zeros_len, h]
theorem zero40l : ∀ w, (zeroValue 81).run Tryz.prog w = .ok (.agg #[.int .u8 0, .int .u8 0, .int .u8 0, .int .u8 0]) w := fun _ => by kernel_rfl
theorem bxs_at {a : Nat} (h : a < 256) : at_ bxs a = box a := tab_at _ _ _ h
set_option maxRecDepth 100000 in
set_option maxHeartbeats 4000000 in
theorem added4 (a : List Nat) (ha : Bts 4 a) (n : Nat) (hn : n ≤ 60) (h4 : n % 8 = 4) (g o : Nat) (w : World) (hc : ∀ j, j < 256 → w.cell? ⟨g, o + j, none⟩ = some (.int .u8 (at_ bxs j : Nat))) :
    Calls Tryz.prog 69 #[.agg (ncells a), .int .i64 n, .pointer (some ⟨g, o, none⟩)] w fun e w' => e = .returned (.agg (ncells (addw a n))) ∧ Below w.heap.size w w' := by
  have zz := zero40l
  have hA : addw a n = [box (at_ a 0), box (at_ a 1), box (at_ a 2), box (at_ a 3)] := by unfold addw; rw [if_neg (by omega), if_pos h4]
  rw [hA]
  have hal : a.length = 4 := ha.1
  have l0 := ha.at_lt 0
  have l1 := ha.at_lt 1
  have l2 := ha.at_lt 2
  have l3 := ha.at_lt 3
  have lg : g < w.heap.size := World.block_lt_of_cell? w _ (hc 0 (by omega))
  obtain ⟨W0, hW0⟩ : ∃ W0, W0 = (w.alloc (.cells (ncells a) 81)).alloc (.cells #[.int .u8 0, .int .u8 0, .int .u8 0, .int .u8 0] 81) := ⟨_, rfl⟩
  have b0 : Below w.heap.size w W0 := by rw [hW0]; exact ((Below.refl _ _).alloc (Nat.le_refl _) _).alloc (by simp) _
  have g0 : W0.heap[w.heap.size]? = some (.cells (ncells a) 81 (0, 0)) := by rw [hW0, Below.heap_alloc _ _ _ (by simp)]; exact heap_alloc_new w _
  have g1 : W0.heap[w.heap.size + 1]? = some (.cells #[.int .u8 0, .int .u8 0, .int .u8 0, .int .u8 0] 81 (0, 0)) := by rw [hW0]; exact heap_alloc2_new w _ _
  have c0 := cell_at (k := 0) g0 hal (by omega)
  have c1 := cell_at (k := 1) g0 hal (by omega)
  have c2 := cell_at (k := 2) g0 hal (by omega)
  have c3 := cell_at (k := 3) g0 hal (by omega)
  have T : ∀ j, j < 256 → W0.cell? ⟨g, o + j, none⟩ = some (.int .u8 (box j : Nat)) := fun j hj => by rw [b0.cell (p := ⟨g, o + j, none⟩) lg, hc j hj, bxs_at hj]
  have t0 := T _ l0
  have t1 := T _ l1
  have t2 := T _ l2
  have t3 := T _ l3
  generalize at_ a 0 = x0 at *
  generalize at_ a 1 = x1 at *
  generalize at_ a 2 = x2 at *
  generalize at_ a 3 = x3 at *
  generalize box x0 = y0 at *
  generalize box x1 = y1 at *
  generalize box x2 = y2 at *
  generalize box x3 = y3 at *
  have m0 : (x0 : Int) < 256 := by omega
  have m1 : (x1 : Int) < 256 := by omega
  have m2 : (x2 : Int) < 256 := by omega
  have m3 : (x3 : Int) < 256 := by omega
  have hn8 : (n : Int) % 8 = 4 := by omega
  have IJ := Lib.hid (i40 (b := [y0, y1, y2, y3]) rfl)
  have ZJ : Hid ((#[.int .u8 0, .int .u8 0, .int .u8 0, .int .u8 0] : Array Value).size = (ncells [y0, y1, y2, y3]).size) := rfl
  have JE : Hid ((#[.int .u8 (y0 : Int), .int .u8 (y1 : Int), .int .u8 (y2 : Int), .int .u8 (y3 : Int)] : Array Value) = ncells [y0, y1, y2, y3]) := rfl
  have OJ := Lib.hid (none_ [y0, y1, y2, y3])
  have G1 := Lib.hid g1
  have HW0 := Lib.hid hW0
  have HB := Lib.hid b0
  clear hA hal ha hc lg hW0 b0 g0 g1 T h4 l0 l1 l2 l3
  go_enter Tryz.func69, Tryz.ntmps69
  go_wp2_with fail
  rw [← HW0.out]
  go_still_tail 25, (by kernel_rfl)
  change wpList _ _ _ _ _ W0.drew
  rw [JE.out]
  clear t0 t1 t2 t3 c0 c1 c2 c3
  go_wp2_with (refine wpList_store_row rfl 81 (.tmp 6) (.tmp 72) rfl (w.heap.size + 1) (ncells [y0, y1, y2, y3]) rfl rfl 81 #[.int .u8 0, .int .u8 0, .int .u8 0, .int .u8 0] G1.out IJ.out ZJ.out OJ.out ?_)
  refine bodyPost_ret (v := .agg (ncells [y0, y1, y2, y3])) (results_cell_row Tryz.results69 _ _ (w.heap.size + 1) 81 _ (0, 0) _ rfl (setRow_heap _ _ _ _ _ _ (show W0.drew.heap[w.heap.size + 1]? = _ from G1.out)) Tryz.underlying81 rfl IJ.out) rfl ⟨rfl, ?_⟩
  exact HB.out.drew.trans (below_row _ _ (by omega))
set_option maxRecDepth 100000 in
set_option maxHeartbeats 2000000 in
theorem addedN (a : List Nat) (ha : Bts 4 a) (n : Nat) (hn : n ≤ 60) (h0 : n % 8 ≠ 0) (h4 : n % 8 ≠ 4) (p : Value) (w : World) :
    Calls Tryz.prog 69 #[.agg (ncells a), .int .i64 n, p] w fun e w' => e = .returned (.agg (ncells (addw a n))) ∧ Below w.heap.size w w' := by
  have zz := zero40
  obtain ⟨Z, hZ⟩ : ∃ Z, Z = ncells (zeros 4) := ⟨_, rfl⟩
  rw [← hZ] at zz
  have hA : addw a n = a := by unfold addw; rw [if_neg h0, if_neg h4]
  rw [hA]
  have IJ := Lib.hid (i40 ha.1)
  have ZJ : Hid (Z.size = (ncells a).size) := by show _ = _; rw [hZ]; exact z40 ha.1
  have OJ := Lib.hid (none_ a)
  obtain ⟨W0, hW0⟩ : ∃ W0, W0 = (w.alloc (.cells (ncells a) 81)).alloc (.cells Z 81) := ⟨_, rfl⟩
  have HB : Hid (Below w.heap.size w W0) := by rw [hW0]; exact ((Below.refl _ _).alloc (Nat.le_refl _) _).alloc (by simp) _
  have G0 : Hid (W0.heap[w.heap.size]? = some (.cells (ncells a) 81 (0, 0))) := by show _ = _; rw [hW0, Below.heap_alloc _ _ _ (by simp)]; exact heap_alloc_new w _
  have G1 : Hid (W0.heap[w.heap.size + 1]? = some (.cells Z 81 (0, 0))) := by show _ = _; rw [hW0]; exact heap_alloc2_new w _ _
  have HW0 := Lib.hid hW0
  obtain ⟨r, hr⟩ : ∃ r, r = n % 8 := ⟨_, rfl⟩
  have hrz : (n : Int) % 8 = (r : Int) := by omega
  have r0 : ¬ (r : Int) = 0 := by omega
  have r4 : ¬ (r : Int) = 4 := by omega
  have q0 : ((r : Int) == 0) = false := by simp; omega
  have q4 : ((r : Int) == 4) = false := by simp; omega
  clear hZ hA ha h0 h4 hW0 hr
  go_enter Tryz.func69, Tryz.ntmps69
  go_wp2_with (first
    | (refine wpList_load_row rfl 81 (.tmp 3) rfl w.heap.size rfl 81 (ncells a) (0, 0) _ (by rw [← HW0.out]; exact G0.out) Tryz.underlying81 rfl IJ.out ?_)
    | (refine wpList_store_row rfl 81 (.tmp 6) (.tmp 73) rfl (w.heap.size + 1) (ncells a) rfl rfl 81 Z (by rw [← HW0.out]; exact G1.out) IJ.out ZJ.out OJ.out ?_))
  rw [← HW0.out]
  refine bodyPost_ret (v := .agg (ncells a)) (results_cell_row Tryz.results69 _ _ (w.heap.size + 1) 81 _ (0, 0) _ rfl (setRow_heap _ _ _ _ _ _ G1.out) Tryz.underlying81 rfl IJ.out) rfl ⟨rfl, ?_⟩
  exact HB.out.trans (below_row _ _ (by omega))
end Go.Proofs.YtpkeofioobmmoaaGreatDoor.ae
