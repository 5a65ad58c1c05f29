/-
  Contracts of the document's own functions of package xts: masks doubled, tweaks. Condition: the numbers are bytes.
-/
import Derived.Test.YtpkeofioobmmoaaGreatDoorAeXtsF
namespace Go.Proofs.YtpkeofioobmmoaaGreatDoor.ae
open Go.RowKit
set_option maxRecDepth 100000 in
theorem tab_succ (n : Nat) (f : Nat → Nat) : tab (n + 1) f = tab n f ++ [f n] := by unfold tab; rw [List.range_succ, List.map_append]; rfl
set_option maxRecDepth 100000 in
/-- One byte more. -/
theorem Own.push {w : World} {base : Nat} {v : Value} {xs : List Nat} (h : Own w base v xs) {x : Nat} (hx : x < 256) (hn : xs.length + 1 ≤ 1099511627776) (hbase : base ≤ w.heap.size) :
    ∃ q cap w', (Builtin.append_ #[31, 31] 31 #[v, .slice (some ⟨w.heap.size, 0, none⟩) 1 1]).run Tryz.prog (w.alloc (.cells #[.int .u8 (x : Nat)] 5)) = .ok (.slice q (xs.length + 1) cap) w' ∧ Own w' base (.slice q (xs.length + 1) cap) (xs ++ [x]) ∧ Below base w w' := by
  have hb : Below w.heap.size w (w.alloc (.cells #[.int .u8 (x : Nat)] 5)) := (Below.refl _ _).alloc (Nat.le_refl _) _
  have hs : Sees (w.alloc (.cells #[.int .u8 (x : Nat)] 5)) (.slice (some ⟨w.heap.size, 0, none⟩) 1 1) [x] :=
    sees_row _ _ [x] (fun y hy => by simp at hy; omega) (by simp [maxLen]) (heap_alloc_new w (.cells #[.int .u8 (x : Nat)] 5)) 1 rfl
  obtain ⟨q, cap, w', hr, ho, _, hbl⟩ := app (h.below hb) hs hn (Nat.le_trans hbase hb.size)
  exact ⟨q, cap, w', hr, ho, (hb.mono hbase).trans hbl⟩
set_option maxRecDepth 100000 in
theorem frozen_block {w : World} {g : Nat} {cs : Array Value} {t : TypeId} (hg : w.heap[g]? = some (.cells cs t (0, 0))) (i : Nat) : w.frozen? ⟨g, i, none⟩ = false := by simp [World.frozen?, hg]
set_option maxRecDepth 100000 in
theorem own_set {w : World} {base g cap k : Nat} {xs : List Nat} (h : Own w base (.slice (some ⟨g, 0, none⟩) xs.length cap) xs) (hk : k < xs.length) (z : Nat) (hz : z < 256) :
    Own (w.setCell ⟨g, k, none⟩ (.int .u8 (z : Nat))) base (.slice (some ⟨g, 0, none⟩) xs.length cap) (xs.set k z) ∧ w.cell? ⟨g, k, none⟩ = some (.int .u8 (at_ xs k : Nat)) ∧ w.frozen? ⟨g, k, none⟩ = false ∧ base ≤ g := by
  obtain ⟨hb, hl, ⟨h1, _⟩ | ⟨g', cap', cur, h1, hbase, hg, hn, hm, hs, ht⟩⟩ := h
  · cases h1
  simp only [Value.slice.injEq, Option.some.injEq, Addr.mk.injEq] at h1
  obtain ⟨⟨rfl, _⟩, _, rfl⟩ := h1
  have hc : w.cell? ⟨g, k, none⟩ = some (.int .u8 (at_ xs k : Nat)) := by
    rw [cell_of_row _ _ _ _ _ _ hg]
    have h1 : (xs.map fun n : Nat => Value.int .u8 (n : Int))[k]? = some (.int .u8 (at_ xs k : Nat)) := by simp [at_, List.getD, hk]
    rw [← ht, List.getElem?_take_of_lt (by omega)] at h1
    simpa using h1
  refine ⟨⟨fun y hy => ?_, by simp, .inr ⟨g, cap, cur.setIfInBounds k (.int .u8 (z : Nat)), by simp, hbase, ?_, by simpa using hn, hm, by simpa using hs, ?_⟩⟩, hc, frozen_block hg k, hbase⟩
  · rcases List.mem_or_eq_of_mem_set hy with h | h
    · exact hb y h
    · rw [h]; exact hz
  · rw [setCell_eq_setRow w g k _ _ _ _ hg]
    exact setRow_heap w g _ _ _ _ hg
  · rw [List.length_set, Array.toList_setIfInBounds, List.map_set, ← ht, List.take_set]
end Go.Proofs.YtpkeofioobmmoaaGreatDoor.ae
