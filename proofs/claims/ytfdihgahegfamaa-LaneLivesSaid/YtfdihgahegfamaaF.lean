/-
  The fixed calls of package casematelaw09 (alive) answer true, and leave all that was there. Condition: none.
-/
import Derived.Test.YtfdihgahegfamaaE
namespace Go.Proofs.Ytfdihgahegfamaa
open Go.RowKit
theorem RG.new {T e sz : Nat} (w : World) (N : Nat) : RG T e sz (w.alloc (.cells #[.int .i64 N, .slice none 0 0] T)) w.heap.size N (.slice none 0 0) 0 [] := ⟨heap_alloc_new w _, Rw.nil _ _ _⟩
theorem RG.mods {T e sz : Nat} {w w' : World} {g N n : Nat} {v : Value} {xs : List Value} {S : Nat → Prop} (h : RG T e sz w g N v n xs) (hm : Mods S w w') (h1 : ¬ S g) (h2 : ∀ k, v.ownBlock = some k → ¬ S k) : RG T e sz w' g N v n xs :=
  ⟨(hm.block g h.lt h1).trans h.1, h.2.mods hm h2⟩
theorem RG.below {T e sz : Nat} {w w' : World} {g N n : Nat} {v : Value} {xs : List Value} (h : RG T e sz w g N v n xs) (hb : Below w.heap.size w w') : RG T e sz w' g N v n xs :=
  h.mods (S := fun _ => False) (Mods.of_below hb) id (fun _ _ => id)
theorem asks57 (w : World) : Asks w (.func (.func 57) #[] #[]) (fun x => decide (1 < x)) := fun x W _ => ask57 x W
theorem Anew.own {w : World} {v v' : Value} {B : Nat} (h : Anew w v v') (hv : ∀ k, v.ownBlock = some k → B ≤ k) (hB : B ≤ w.heap.size) : ∀ k, v'.ownBlock = some k → B ≤ k := fun k hk => by
  rcases h k hk with h1 | h1
  · exact hv k h1
  · omega
theorem Mods.ft {B g : Nat} {a w w' : World} {v : Value} (h : Below B a w) (k : Mods (Ft g v) w w') (hB : B ≤ w.heap.size) (hg : B ≤ g) (hv : ∀ k, v.ownBlock = some k → B ≤ k) : Below B a w' :=
  Mods.below h k hB (fun b hb => by rcases hb with rfl | hb; exact hg; exact hv b hb)
set_option maxRecDepth 100000 in
set_option maxHeartbeats 4000000 in
theorem alive (w : World) : Calls Try.prog 12 #[] w fun e w' => e = .returned (.bool true) ∧ Below w.heap.size w w' := by
  go_enter Try.func12, Try.ntmps12
  go_wp2_with fail
  refine (newS 2 (by omega) (by omega) w).mono ?_
  rintro e w1 ⟨rfl, hw1⟩
  have R1 : Hid (RG 40 9 1 w1 w.heap.size 2 (.slice none 0 0) 0 []) := by show RG _ _ _ _ _ _ _ _ _; rw [hw1]; exact RG.new w 2
  have B1 : Hid (Below w.heap.size w w1) := by show Below _ _ _; rw [hw1]; exact (Below.refl _ _).alloc (Nat.le_refl _) _
  clear hw1
  go_wp2_with fail
  refine (newI_no 0 (by omega) w1).mono ?_
  rintro e w2 ⟨rfl, rfl⟩
  go_wp2_with fail
  refine (pushS R1.out (by omega) (by omega) ⟨#[120]⟩).mono ?_
  rintro e w2 ⟨v2, rfl, hr, hm, ha⟩
  have R2 := Lib.hid hr
  have O2 : Hid (∀ k, v2.ownBlock = some k → w.heap.size ≤ k) := ha.own (fun k hk => by simp [Value.ownBlock] at hk) (by have := R1.out.lt; omega)
  have B2 : Hid (Below w.heap.size w w2) := Mods.ft B1.out hm (by have := R1.out.lt; omega) (Nat.le_refl _) (fun k hk => by simp [Value.ownBlock] at hk)
  clear hr hm ha
  go_wp2_with fail
  refine (pushS R2.out (by omega) (by omega) ⟨#[121]⟩).mono ?_
  rintro e w3 ⟨v3, rfl, hr, hm, ha⟩
  have R3 := Lib.hid hr
  have O3 : Hid (∀ k, v3.ownBlock = some k → w.heap.size ≤ k) := ha.own O2.out (by have := R2.out.lt; omega)
  have B3 : Hid (Below w.heap.size w w3) := Mods.ft B2.out hm (by have := R2.out.lt; omega) (Nat.le_refl _) O2.out
  clear hr hm ha
  go_wp2_with fail
  refine (pushS_no R3.out (by omega) _).mono ?_
  rintro e w4 ⟨rfl, rfl⟩
  go_wp2_with fail
  refine (popS R3.out ⟨#[120]⟩ (by simp)).mono ?_
  rintro e w4 ⟨v4, rfl, hr, hm, ha⟩
  have R4 := Lib.hid hr
  have B4 : Hid (Below w.heap.size w w4) := Mods.ft B3.out hm (by have := R3.out.lt; omega) (Nat.le_refl _) O3.out
  have HG4 : Hid (w.heap.size ≤ w4.heap.size) := by have := R4.out.lt; show w.heap.size ≤ _; omega
  clear hr hm ha
  go_wp2_with fail
  obtain ⟨w5, hw5⟩ : ∃ w5, w5 = w4.alloc (.cells #[.int .i64 1, .int .i64 2] 3) := ⟨_, rfl⟩
  have hs : SI w5 (.slice (some ⟨w4.heap.size, 0, none⟩) 2 2) [1, 2] := by
    refine ⟨_, _, rfl, by simp, by simp [maxLen], fun k z hz => ⟨w4.heap.size, 0, rfl, by rw [hw5]; simp, ?_⟩⟩
    rw [hw5, cell_of_row _ _ _ _ _ _ (heap_alloc_new _ _)]
    rcases k with _ | _ | k <;> simp at hz <;> subst hz <;> rfl
  have B5 : Hid (Below w.heap.size w w5) := by show Below _ _ _; rw [hw5]; exact B4.out.alloc HG4.out _
  have R5 : Hid (RG 40 9 1 w5 w.heap.size 2 v4 (0 + 1 + 1 - 1) (List.drop (1 * 1) ([] ++ [Value.string { data := #[120] }] ++ [Value.string { data := #[121] }]))) := by
    show RG _ _ _ _ _ _ _ _ _
    rw [hw5]; exact R4.out.below ((Below.refl _ _).alloc (Nat.le_refl _) _)
  rw [← hw5]
  clear hw5 R4 B4
  have HG5 : Hid (w.heap.size ≤ w5.heap.size) := by have := R5.out.lt; show w.heap.size ≤ _; omega
  refine (mapIB _ [1, 2] 57 #[] (fun x => decide (1 < x)) w5 hs (by simp) (asks57 _)).mono ?_
  rintro e w6 ⟨g6, rfl, hg6, hh, hb⟩
  have c0 : w6.cell? ⟨g6, 0, none⟩ = some (.bool false) := by rw [cell_of_row _ _ _ _ _ _ hh]; rfl
  have c1 : w6.cell? ⟨g6, 1, none⟩ = some (.bool true) := by rw [cell_of_row _ _ _ _ _ _ hh]; rfl
  have R6 := Lib.hid (R5.out.below hb)
  have B6 : Hid (Below w.heap.size w w6) := B5.out.trans (hb.mono HG5.out)
  clear hs hh hb hg6
  go_wp2_with (first | (go_at_call 21; refine (lenS R6.out).mono ?_; rintro e w' ⟨rfl, rfl⟩) | (go_at_call 22; refine (sizeS R6.out).mono ?_; rintro e w' ⟨rfl, rfl⟩))
  go_ret
  exact ⟨rfl, B6.out⟩
end Go.Proofs.Ytfdihgahegfamaa
