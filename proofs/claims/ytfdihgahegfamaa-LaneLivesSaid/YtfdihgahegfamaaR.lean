/-
  What slice expressions and clear make of a row. Condition: the bounds lie in the row.
-/
import Derived.Test.YtfdihgahegfamaaA
import Derived.Lib.SliceRun
namespace Go.Proofs.Ytfdihgahegfamaa
open Go.RowKit
section
variable {P : Program} {t e sz : Nat}
theorem run_head (ht : P.underlying t = some (.slice (P.elem t))) (hs : ∀ W, (sizeOf (P.elem t)).run P W = .ok sz W) (b o n cap k : Nat) (hn : k ≤ cap) (hc : 0 < cap) (kk : Int) (hk : kk = k) (W : World) :
    (Instr.slice t (.slice (some ⟨b, o, none⟩) n cap) none (some (.int .i64 kk)) none).run P W = .ok (.slice (some ⟨b, o, none⟩) k cap) W := by
  have h : ¬ cap = 0 := by omega
  subst hk
  rw [run_slice_h W t _ n cap ht .i64 k (by omega) (by omega), hs]
  simp [sliced, Result.andThen, h, addr_add]
theorem run_tail (ht : P.underlying t = some (.slice (P.elem t))) (hs : ∀ W, (sizeOf (P.elem t)).run P W = .ok sz W) (x : Option Addr) (n cap k : Nat) (hn : k ≤ n) (kk : Int) (hk : kk = k) (W : World) :
    (Instr.slice t (.slice x n cap) (some (.int .i64 kk)) none none).run P W = .ok (.slice (if cap = k then x else x.map (·.add (k * sz))) (n - k) (cap - k)) W := by
  subst hk
  rw [run_slice_l W t _ n cap ht .i64 k (by omega) (by omega), hs]
  simp [sliced, Result.andThen]
theorem run_mid (ht : P.underlying t = some (.slice (P.elem t))) (hs : ∀ W, (sizeOf (P.elem t)).run P W = .ok sz W) (x : Option Addr) (n cap k l : Nat) (hn : k ≤ l) (hc : l ≤ cap) (kk ll : Int) (hk : kk = k) (hl : ll = l) (W : World) :
    (Instr.slice t (.slice x n cap) (some (.int .i64 kk)) (some (.int .i64 ll)) none).run P W = .ok (.slice (if cap = k then x else x.map (·.add (k * sz))) (l - k) (cap - k)) W := by
  subst hk hl
  rw [run_slice_lh W t _ n cap ht .i64 .i64 k l (by omega) (by omega) (by omega), hs]
  simp [sliced, Result.andThen]
theorem zeroCells_one (z : Value) (h : ∀ c ∈ z.cells.toList, c.oneCell' = true) (n : Nat) : (∀ c ∈ (Builtin.zeroCells z.cells n).toList, c.oneCell' = true) ∧ (Builtin.zeroCells z.cells n).toList.length = n * z.cells.size := by
  refine ⟨fun c hc => ?_, by simp [Builtin.zeroCells]⟩
  simp only [Builtin.zeroCells, Array.toList_map, List.mem_map, Array.toList_range, List.mem_range] at hc
  obtain ⟨i, hi, rfl⟩ := hc
  have hp : 0 < z.cells.size := by
    rcases Nat.eq_zero_or_pos z.cells.size with h0 | h0
    · rw [h0] at hi; omega
    · exact h0
  have hm := Nat.mod_lt i hp
  rw [getElem!_pos z.cells _ hm]
  exact h _ (by simp)
theorem run_clear (ht : P.underlying t = some (.slice e)) (z : Value) (hv : ∀ w, (zeroValue e).run P w = .ok z w) (hz : z.cells.size = sz) (h1 : ∀ c ∈ z.cells.toList, c.oneCell' = true) (b o n c ty : Nat) (hn : 0 < n) (w : World)
    (hc : ∀ j, j < n * sz → (w.cell? ⟨b, o + j, none⟩).isSome = true) (hf : ∀ j, w.frozen? ⟨b, j, none⟩ = false) :
    (Builtin.clear_ #[t] ty #[.slice (some ⟨b, o, none⟩) n c]).run P w = .ok (.tuple #[]) (w.setCells b o (Builtin.zeroCells z.cells n).toList) := by
  obtain ⟨a1, a2⟩ := zeroCells_one z h1 n
  have hst := run_storeCells_cells (P := P) b o (Builtin.zeroCells z.cells n).toList 0 w (by rw [a2, hz]; simpa using hc) (fun j _ => hf _) a1
  simp only [Nat.add_zero] at hst
  obtain ⟨m, rfl⟩ : ∃ m, n = m + 1 := ⟨n - 1, by omega⟩
  simp [Builtin.clear_, run_underlying ht, hv, hst]
end
end Go.Proofs.Ytfdihgahegfamaa
