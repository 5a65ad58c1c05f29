/-
  Contracts of lane.New at ints, and of Len. Condition: the sizes may be; or may not.
-/
import Derived.Test.YtfdihgahegfamaaV
namespace Go.Proofs.Ytfdihgahegfamaa
open Go.RowKit Go.Conc
theorem newL_no (n s : Int) (h : n < 1 ∨ 8 < n ∨ s < 1 ∨ 8 < s) (w : World) :
    Calls Try.prog 40 #[.int .i64 n, .int .i64 s] w fun e w' => e = .returned (.tuple #[.pointer none, .int .i64 1]) ∧ w = w' := by
  by_cases h1 : n < 1
  · clear h
    go_enter Try.func40, Try.ntmps40
    go_wp2_with fail
    go_ret2
    exact ⟨rfl, rfl⟩
  by_cases h2 : 8 < n
  · clear h
    go_enter Try.func40, Try.ntmps40
    go_wp2_with fail
    go_ret2
    exact ⟨rfl, rfl⟩
  by_cases h3 : s < 1
  · clear h
    go_enter Try.func40, Try.ntmps40
    go_wp2_with fail
    go_ret2
    exact ⟨rfl, rfl⟩
  have h4 : 8 < s := by omega
  clear h
  go_enter Try.func40, Try.ntmps40
  go_wp2_with fail
  go_ret2
  exact ⟨rfl, rfl⟩
theorem info111 : (Try.prog.info? 111).map (fun i => (i.zero, i.size, i.bytes)) = some (some (.chan none), 1, 8) := by kernel_rfl
theorem info105 : (Try.prog.info? 105).map (fun i => (i.zero, i.size, i.bytes)) = some (some (.pointer none), 1, 8) := by kernel_rfl
theorem make110 (w : World) (n : Nat) (hn : n ≤ 65536) : (Instr.makeSlice 110 (.int .i64 n) (.int .i64 n)).run Try.prog w = .ok (.slice (some ⟨w.heap.size, 0, none⟩) n n) (w.alloc (.cells (Array.replicate n (.chan none)) 111)) := by
  obtain ⟨i, hi, hz0, hz1, hz2⟩ := info_parts info111
  have h := run_make (P := Try.prog) w 110 111 i (.chan none) Try.underlying110 hi hz0 .i64 .i64 n n (by omega) (by omega) (by rw [hz2]; omega) (by omega)
  simp only [Int.toNat_natCast] at h
  rw [h]
  have hm : madeCells (Value.chan none).cells (n * i.size) = Array.replicate n (.chan none) := by
    rw [hz1, Nat.mul_one]
    unfold madeCells
    apply Array.ext
    · simp
    · intro j h1 h2; simp [Value.cells, Nat.mod_one]
  rw [hm]
theorem mkchan111 (s : Nat) (h0 : s ≤ 8) (w : World) : (Instr.makeChan 111 (.int .i64 s)).run Try.prog w = .ok (.chan (some w.heap.size)) (w.alloc (.chan s #[] false 0 0 false)) := by
  obtain ⟨i, hi, hz0, hz1, hz2⟩ := info_parts info105
  simpa using run_makeChan (P := Try.prog) (w := w) Try.underlying111 hi .i64 s (by omega) (by rw [hz2]; omega)
/-- The row of channels behind k rounds. -/
def crow (c0 n k : Nat) : Array Value := ((List.range n).map fun i => if i < k then Value.chan (some (c0 + i)) else Value.chan none).toArray
theorem crow_set (c0 n k : Nat) (hk : k < n) : (crow c0 n k).setIfInBounds k (.chan (some (c0 + k))) = crow c0 n (k + 1) := by
  unfold crow
  rw [List.setIfInBounds_toArray]
  congr 1
  apply List.ext_getElem
  · simp
  · intro j h1 h2
    rw [List.getElem_set]
    simp only [List.getElem_map, List.getElem_range]
    by_cases hj : k = j
    · subst hj; simp
    · rw [if_neg hj]
      by_cases hjk : j < k
      · rw [if_pos hjk, if_pos (by omega)]
      · rw [if_neg hjk, if_neg (by omega)]
/-- New lanes. -/
def NewP (TL TC TE : Nat) (w : World) (n s : Nat) (e : Ending) (w' : World) : Prop :=
  ∃ g ga c0, e = .returned (.tuple #[.pointer (some ⟨g, 0, none⟩), .int .i64 0]) ∧ LN TL TC TE w' g ga c0 n s (List.replicate n []) ∧ w.heap.size ≤ c0 ∧ w.heap.size ≤ g ∧ Below w.heap.size w w'
set_option maxRecDepth 100000 in
set_option maxHeartbeats 2000000 in
theorem newL (n s : Nat) (h1 : 1 ≤ n) (h2 : n ≤ 8) (h3 : 1 ≤ s) (h4 : s ≤ 8) (w : World) : Calls Try.prog 40 #[.int .i64 n, .int .i64 s] w (NewP 113 111 3 w n s) := by
  have hm := make110 w n (by omega)
  have HMC := Lib.hid (mkchan111 s h4)
  go_enter Try.func40, Try.ntmps40
  go_wp2_with fail
  clear hm
  go_loopw [26] (fun i wr => ∃ k : Nat, k ≤ n ∧ i = .int .i64 k ∧ wr.heap.size = w.heap.size + 1 + k ∧ wr.heap[w.heap.size]? = some (.cells (crow (w.heap.size + 1) n k) 111 (0, 0)) ∧ (∀ i, i < k → wr.heap[w.heap.size + 1 + i]? = some (.chan s #[] false 0 0 false)) ∧ Below w.heap.size w wr) (fun i _ => n - (intOf i).toNat)
  case atStart =>
    refine ⟨0, by omega, rfl, by simp, ?_, fun i hi => by omega, alloc_below w _⟩
    rw [heap_alloc_new]
    congr 2
    apply Array.ext
    · simp [crow]
    · intro j h1 h2; simp [crow]
  case round =>
    obtain ⟨k, hk, rfl, hsz, hg, hch, hb⟩ := hrel
    by_cases hlt : k < n
    · have hmc := HMC.out wr
      have hg2 : (wr.alloc (.chan s #[] false 0 0 false)).heap[w.heap.size]? = some (.cells (crow (w.heap.size + 1) n k) 111 (0, 0)) := by
        rw [Below.heap_alloc _ _ _ (by omega)]; exact hg
      have hc2 : (wr.alloc (.chan s #[] false 0 0 false)).cell? ⟨w.heap.size, k, none⟩ = some (.chan none) := by
        rw [cell_of_row _ _ _ _ _ _ hg2]; simp [crow, hlt]
      have hf : (wr.alloc (.chan s #[] false 0 0 false)).frozen? ⟨w.heap.size, k, none⟩ = false := by simp [World.frozen?, hg2]
      have HS := Lib.hid (crow_set (w.heap.size + 1) n k hlt)
      have HG := Lib.hid hg
      have HB := Lib.hid hb
      have HC := Lib.hid hch
      have HZ := Lib.hid hsz
      have HG2 := Lib.hid hg2
      clear hg hb hch hsz hg2
      go_wp2_with fail
      go_roundw
      case rel =>
        have hs := HZ.out
        refine ⟨k + 1, by omega, by go_num, ?_, ?_, fun i hi => ?_, (HB.out.alloc HB.out.size _).setCell (Nat.le_refl _) _⟩
        · simp [World.setCell]; omega
        · rw [← HS.out]
          have := HG2.out
          rw [show w.heap.size + 1 + k = wr.heap.size by omega]
          simp [World.setCell, Array.getElem?_modify, this]
        · rw [Below.heap_setCell _ _ _ _ (by simp; omega)]
          by_cases hik : i < k
          · rw [Below.heap_alloc _ _ _ (by omega)]; exact HC.out i hik
          · rw [show w.heap.size + 1 + i = wr.heap.size by omega]; exact heap_alloc_new wr _
      case measure => simp [intOf]; omega
    · have hkn : k = n := by omega
      have HG := Lib.hid hg
      have HB := Lib.hid hb
      have HC := Lib.hid hch
      have HZ := Lib.hid hsz
      clear hg hb hch hsz
      go_wp2_with fail
      go_ret2
      have hs := HZ.out
      have hcr : crow (w.heap.size + 1) n k = ((List.range n).map fun i => Value.chan (some (w.heap.size + 1 + i))).toArray := by
        unfold crow
        congr 1
        apply List.map_congr_left
        intro i hi
        rw [if_pos (by have := List.mem_range.1 hi; omega)]
      have hb2 := HB.out.alloc HB.out.size (.cells #[.slice (some ⟨w.heap.size, 0, none⟩) n n] 113)
      refine ⟨wr.heap.size, w.heap.size, w.heap.size + 1, rfl, ⟨heap_alloc_new wr _, ?_, by simp, h2, fun i l hi => ?_⟩, by omega, HB.out.size, hb2⟩
      · rw [Below.heap_alloc _ _ _ (by omega), HG.out, hcr]
      · rw [List.getElem?_replicate] at hi
        split at hi
        · simp at hi
          subst hi
          exact ⟨#[], 0, 0, by rw [Below.heap_alloc _ _ _ (by omega)]; exact HC.out i (by omega), rfl, by simp, fun j x hx => by simp at hx⟩
        · simp at hi
end Go.Proofs.Ytfdihgahegfamaa
