/-
  Contracts of the functions that the statement ShaWrites goes through: Sum of a hash that is nil, or that no call made; lemmas on a block that is written on. Condition: none.
-/
import Derived.Test.YtmkaagiabafooaaDoorHeld
namespace Go.Proofs.YtmkaagiabafooaaDoor
open Go.RowKit
def Z27c : Array Value := bcells (List.replicate 32 0)
theorem zv27c : ∀ w, (zeroValue 27).run Tryd.prog w = .ok (.agg Z27c) w := zv27
theorem iz27 : (Tryd.prog.info? 27).map (·.size) = some Z27c.size := by rw [i27, Z27c, bsize]; rfl
theorem oz27 : Z27c.all (·.oneCell') = true := bone _
set_option maxRecDepth 100000 in
theorem sum_nil (w : World) : Calls Tryd.prog 20 #[.pointer none] w fun e w' => e = .returned (.tuple #[.agg Z27c, .int .i64 6]) ∧ Below w.heap.size w w' := by
  have z27 := zv27c
  have IZ := Lib.hid iz27
  have OZ := Lib.hid oz27
  have hb27 : ∀ w, (Instr.build 27 #[]).run Tryd.prog w = .ok (.agg Z27c) w := fun _ => by kernel_rfl
  generalize Z27c = Z at *
  go_enter Tryd.func20, Tryd.ntmps20
  go_wp2_with (refine wpList_store_row rfl 27 _ _ rfl w.heap.size Z rfl rfl 27 Z (heap_alloc_new w _) IZ.out rfl OZ.out ?_)
  refine bodyPost_ret (v := .tuple #[.agg Z, .int .i64 6]) (results_row_tmp Tryd.results20 _ _ w.heap.size 27 _ (0, 0) _ _ rfl rfl (setRow_heap _ _ _ _ _ _ (heap_alloc_new w _)) Tryd.underlying27 rfl IZ.out) rfl ⟨rfl, ?_⟩
  exact ((Below.refl _ _).alloc (Nat.le_refl _) _).trans (below_row _ _ (Nat.le_refl _))
set_option maxRecDepth 100000 in
theorem sum_zero (g : Nat) (w : World) (hg : w.cell? ⟨g, 0, none⟩ = some (.bool false)) : Calls Tryd.prog 20 #[.pointer (some ⟨g, 0, none⟩)] w fun e w' => e = .returned (.tuple #[.agg Z27c, .int .i64 6]) ∧ Below w.heap.size w w' := by
  have z27 := zv27c
  have IZ := Lib.hid iz27
  have OZ := Lib.hid oz27
  have hb27 : ∀ w, (Instr.build 27 #[]).run Tryd.prog w = .ok (.agg Z27c) w := fun _ => by kernel_rfl
  generalize Z27c = Z at *
  have hm : (w.alloc (.cells Z 27)).cell? ⟨g, 0, none⟩ = some (.bool false) := by rw [World.cell?_alloc_lt _ _ _ (World.block_lt_of_cell? w _ hg)]; exact hg
  clear hg
  go_enter Tryd.func20, Tryd.ntmps20
  go_wp2_with (refine wpList_store_row rfl 27 _ _ rfl w.heap.size Z rfl rfl 27 Z (heap_alloc_new w _) IZ.out rfl OZ.out ?_)
  refine bodyPost_ret (v := .tuple #[.agg Z, .int .i64 6]) (results_row_tmp Tryd.results20 _ _ w.heap.size 27 _ (0, 0) _ _ rfl rfl (setRow_heap _ _ _ _ _ _ (heap_alloc_new w _)) Tryd.underlying27 rfl IZ.out) rfl ⟨rfl, ?_⟩
  exact ((Below.refl _ _).alloc (Nat.le_refl _) _).trans (below_row _ _ (Nat.le_refl _))
theorem HSat.kept {w w' : World} {g : Nat} {s : HSt} {c : Int} {row : Option Nat} (h : HSat w g s c) (hg : w.grownBy w' row) (hne : row ≠ some g) : HSat w' g s c :=
  ⟨h.1, by rw [hg.block g (blk_lt h.2) (fun e => hne e.symm)]; exact h.2⟩
theorem Own.blk {w : World} {base : Nat} {v : Value} {xs : List Int} (h : Own w base v xs) (k : Nat) (e : v.ownBlock = some k) : base ≤ k := (h.2.lt k e).1
/-- A byte of the call's own is written. -/
theorem Own.set {w : World} {base g cap n : Nat} {xs : List Int} (h : Own w base (.slice (some ⟨g, 0, none⟩) n cap) xs) (k : Nat) (z : Int) (hz : 0 ≤ z ∧ z ≤ 255) :
    Own (w.setCell ⟨g, k, none⟩ (.int .u8 z)) base (.slice (some ⟨g, 0, none⟩) n cap) (xs.set k z) ∧ w.grownBy (w.setCell ⟨g, k, none⟩ (.int .u8 z)) (some g) ∧ w.frozen? ⟨g, k, none⟩ = false := by
  obtain ⟨hb, hl, ⟨e, _⟩ | ⟨g', cap', cur, e, hbg, hg, hn, hm, hs, ht⟩⟩ := h
  · cases e
  · simp only [Value.slice.injEq, Option.some.injEq, Addr.mk.injEq, and_true] at e
    obtain ⟨rfl, rfl, rfl⟩ := e
    refine ⟨⟨fun y hy => ?_, by simp, .inr ⟨g, cap, cur.setIfInBounds k (.int .u8 z), by simp, hbg, heap_setCell_same _ _ _ _ _ _ hg, by simpa using hn, hm, by simpa using hs, ?_⟩⟩, ⟨rfl, rfl, rfl, by simp, fun j _ hj => heap_setCell_other _ _ _ _ (fun e => hj (by rw [e]))⟩, ?_⟩
    · rcases List.mem_or_eq_of_mem_set hy with hy | rfl
      · exact hb y hy
      · exact hz
    · rw [Array.toList_setIfInBounds, List.length_set, List.map_set, ← ht, List.take_set]
    · exact frozen_of_row _ _ _ _ _ hg
end Go.Proofs.YtmkaagiabafooaaDoor
