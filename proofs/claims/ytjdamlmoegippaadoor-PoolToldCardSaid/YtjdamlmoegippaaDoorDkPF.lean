/-
  Contract of disk.Write, as text DF, for texts in blocks of a kind. Condition: the disk lies in memory as said.
-/
import Derived.Test.YtjdamlmoegippaaDoorDkPC
namespace Go.Proofs.YtjdamlmoegippaaDoor.dk.pv
open Go.RowKit
variable {P : Nat → Prop}
section
variable {w w' : World} {g N sb hb : Nat} {wv : Value} {su : Nat → Option Nat} {ws : List (Nat × Nat)} {rg : List Value} {c p : Int} {d : Bool} {K : Nat}
theorem mayD_ok (h : DK P w g N sb hb wv su ws rg c p d K) (hc : 0 ≤ c) (hc2 : c ≤ 1000000) (hp : p = -1 ∨ 1 ≤ p) (hp2 : p ≤ 9223372036854775807) : Calls Tryd.prog 45 #[.pointer (some ⟨g, 0, none⟩)] w (MayP P w g N sb hb wv su ws rg (c + 1) (pl p) d K true) := by
  unfold pl
  rcases hp with rfl | hp
  · rw [if_pos rfl]; exact mayD_free h hc hc2
  · rw [if_neg (by omega)]; exact mayD_plan h hc hc2 hp hp2
/-- A disk behind a call. -/
def DkP (P : Nat → Prop) (w : World) (g N sb hb : Nat) (wv : Value) (su : Nat → Option Nat) (ws : List (Nat × Nat)) (rg : List Value) (c p : Int) (d : Bool) (K : Nat) (r : Value) (e : Ending) (w' : World) : Prop :=
  ∃ wv', e = .returned r ∧ DkW P w w' g N sb hb wv wv' su ws rg c p d K
set_option maxRecDepth 100000 in
set_option maxHeartbeats 2000000 in
theorem writeD_ok (h : DK P w g N sb hb wv su ws rg c p false K) (s y : Nat) (v : Value) (hs : s < N) (hv : Go.Proofs.YtjdamlmoegippaaDoor.dk.SX w v (tx y)) (hP : ∀ b, w.heap.size ≤ b → P b) (hy : YB y) (hc : 0 ≤ c) (hc2 : c ≤ 1000000) (hp : p = -1 ∨ 1 ≤ p) (hp2 : p ≤ 9223372036854775807) (hK : K < 1000000) :
    Calls Tryd.prog 22 #[.pointer (some ⟨g, 0, none⟩), .int .u32 s, v] w (DkP P w g N sb hb wv su (ws ++ [(s, y)]) rg (c + 1) (pl p) false (K + 1) (.int .i64 0)) := by
  have n2 := h.n2
  have A := Lib.hid (awakeD h)
  have Hs := Lib.hid (hasD h s)
  rw [if_pos hs] at Hs
  obtain ⟨b, ob, cp, cs, rfl, hcp, hcm, hb0, hcs⟩ := hv
  rw [tx_len]
  have F := Lib.hid (fitsD (some ⟨b, ob, none⟩) 512 cp (by omega) w)
  have O := Lib.hid (orD w.heap.size [0, 0, 0] (by simp) (w.alloc (.cells #[.int .i64 0, .int .i64 0, .int .i64 0] 34)) (fun j z hj => by
    rw [cell_of_row _ _ _ _ _ _ (heap_alloc_new w _)]; rcases j with _ | _ | _ | j <;> simp at hj <;> subst hj <;> rfl))
  obtain ⟨w1, hw1⟩ : ∃ w1, w1 = w.alloc (.cells #[.int .i64 0, .int .i64 0, .int .i64 0] 34) := ⟨_, rfl⟩
  have hbw1 : Below w.heap.size w w1 := by rw [hw1]; exact (Below.refl _ _).alloc (Nat.le_refl _) _
  have h1 := h.below hbw1
  have T1 : Hid (Go.Proofs.YtjdamlmoegippaaDoor.dk.SX w1 (.slice (some ⟨b, ob, none⟩) 512 cp) (tx y)) := by
    have : Go.Proofs.YtjdamlmoegippaaDoor.dk.SX w (.slice (some ⟨b, ob, none⟩) 512 cp) (tx y) := ⟨b, ob, cp, cs, by rw [tx_len], hcp, hcm, hb0, hcs⟩
    exact this.below hbw1
  have M := Lib.hid (mayD_ok h1 hc hc2 hp hp2)
  have HPP := Lib.hid hP
  have HB1 := Lib.hid hbw1
  have D1 := Lib.hid h1
  rw [← hw1] at O
  have HW1 := Lib.hid hw1
  have PC : Hid (0 ≤ c ∧ c ≤ 1000000 ∧ K < 1000000 ∧ YB y ∧ s < 65536) := ⟨hc, hc2, hK, hy, by omega⟩
  clear h hb0 hcp hcm hcs hw1 hbw1 h1 hc hc2 hp hp2 hK hy hP
  go_enter Tryd.func22, Tryd.ntmps22
  go_wp2_with fail
  refine A.out.mono ?_
  rintro e w' ⟨rfl, rfl⟩
  go_wp2_with fail
  refine Hs.out.mono ?_
  rintro e w' ⟨rfl, rfl⟩
  go_wp2_with fail
  refine F.out.mono ?_
  rintro e w' ⟨rfl, rfl⟩
  go_wp2_with fail
  rw [← HW1.out]
  refine O.out.mono ?_
  rintro e w' ⟨rfl, rfl⟩
  go_wp2_with fail
  refine M.out.mono ?_
  rintro e w2 ⟨rfl, d2, m2⟩
  have D2 := Lib.hid d2
  have M2 := Lib.hid m2
  have kb := D1.out.kinds
  have T2 := Lib.hid (T1.out.mods m2 (fun b' cs h' e => kb.1 b' cs h' (.inl e)))
  clear d2 m2 kb
  go_wp2_with fail
  refine (copiedS T2.out).mono ?_
  rintro e w3 ⟨rfl, hw3⟩
  have HW3 := Lib.hid hw3
  clear hw3
  go_wp2_with fail
  obtain ⟨V, hV⟩ : ∃ V, V = Value.slice (some ⟨w2.heap.size, 0, none⟩) 512 512 := ⟨_, rfl⟩
  obtain ⟨q, hq⟩ : ∃ q, q = w3.heap.size := ⟨_, rfl⟩
  obtain ⟨w4, hw4⟩ : ∃ w4, w4 = w3.alloc (.cells #[.int .u32 s, V] 100) := ⟨_, rfl⟩
  have hw3 := HW3.out
  have b23 : Below w2.heap.size w2 w3 := by rw [hw3]; exact (Below.refl _ _).alloc (Nat.le_refl _) _
  have b34 : Below w3.heap.size w3 w4 := by rw [hw4]; exact (Below.refl _ _).alloc (Nat.le_refl _) _
  have d4 := (D2.out.below b23).below b34
  have t3 : TX P w3 V (tx y) := ⟨w2.heap.size, HPP.out _ (Nat.le_trans HB1.out.size M2.out.size), by rw [hV, tx_len], by rw [hw3]; exact heap_alloc_new _ _⟩
  have t4 := t3.below b34
  have q4 : w4.heap[q]? = some (.cells #[.int .u32 s, V] 100 (0, 0)) := by rw [hw4, hq]; exact heap_alloc_new _ _
  have hqn : ∀ k, wv.ownBlock = some k → k ≠ q := fun k hk => by
    obtain ⟨vs, r, _⟩ := D2.out.waits
    have := (r.lt k hk).1
    have h1 := b23.size
    omega
  have d4' : DK P w4.drew g N sb hb wv su ws rg (c + 1) (pl p) false K := d4.heap rfl
  have t4' : TX P w4.drew V (tx y) := t4.heap rfl
  obtain ⟨z, k, w5, w7, r1, r2, r3, r4, r5, r6, r7⟩ := d4'.write PC.out.2.2.2.2 t4' PC.out.2.2.2.1 PC.out.2.2.1 q4 hqn
  have e3 := d4.c3
  have e3' : (w4.alloc (.cells #[.int .u32 s, V] 100)).cell? ⟨g, 3, none⟩ = some wv := (d4.below ((Below.refl _ _).alloc (Nat.le_refl _) _)).c3
  have eq0 : w4.cell? ⟨q, 0, none⟩ = some (.int .u32 s) := by rw [cell_of_row _ _ _ _ _ _ q4]; rfl
  have eq1 : w4.cell? ⟨q, 1, none⟩ = some V := by rw [cell_of_row _ _ _ _ _ _ q4]; rfl
  obtain ⟨w6, hw6⟩ : ∃ w6, w6 = w5.setCell ⟨g, 3, none⟩ (.slice z (ws.length + 1) k) := ⟨_, rfl⟩
  rw [← hw6] at r4 r5 r6
  have HW6 := Lib.hid hw6
  clear hw6
  have R7 := Lib.hid r7
  have R1 := Lib.hid r1
  have R6 := Lib.hid r6
  obtain ⟨vs, rr, _⟩ := d4.waits
  have B14 : Hid (w2.heap.size ≤ w4.heap.size ∧ Below w2.heap.size w2 w4) := ⟨(b23.trans (b34.mono b23.size)).size, b23.trans (b34.mono b23.size)⟩
  obtain ⟨vx, vc, rfl, _, _⟩ := rr.form
  rw [← hV, ← hq, ← hw4]
  have HV := Lib.hid hV
  obtain ⟨vb, rfl⟩ : ∃ vb, V = .slice (some ⟨vb, 0, none⟩) 512 512 := ⟨_, hV⟩
  clear hw3 b23 b34 d4 t3 t4 q4 hqn d4' t4' r7 r1 r6 rr hV hq hw4
  go_region_law (refine step_app_run rfl (.tmp 32) (.tmp 34) 91 rfl rfl rfl rfl R1.out ?_)
  all_goals
    go_wp2_with fail
    rw [← HW6.out]
    refine wp_region_still_tail 7 (by kernel_rfl) (by kernel_rfl) ?_
    simp only [List.take_succ_cons, List.take_zero, List.drop_succ_cons, List.drop_zero]
    iterate 7 still_step
    refine wpStill_nil ?_
    change wpList _ _ _ _ _ w6.drew
    have r6 := R6.out
    go_wp2_with fail
    go_ret
    refine ⟨_, rfl, R7.out.dk, ?_, ?_⟩
    · have hm1 : Mods (Dt g sb hb (.slice vx ws.length vc)) w w2 := ((Mods.of_below HB1.out).trans M2.out (fun b hb => .inl hb)).mono (fun b hb' => .inl (.inl hb'))
      have hm2 : Mods (Dt g sb hb (.slice vx ws.length vc)) w w4 := hm1.trans (Mods.of_below (S := Dt g sb hb (.slice vx ws.length vc)) B14.out.2) (fun b hb => .inl hb)
      exact hm2.trans (T := Dt g sb hb (.slice vx ws.length vc)) ⟨R7.out.m.os, R7.out.m.tape, R7.out.m.output, R7.out.m.size, R7.out.m.block⟩ (fun b hb => .inl hb)
    · intro j hj
      rcases R7.out.an j hj with h1 | h1
      · exact .inl h1
      · have h2 := B14.out.1
        have h3 := M2.out.size
        have h4 := HB1.out.size
        have h5 : w4.heap.size ≤ j := h1
        exact .inr (by omega)
end
end Go.Proofs.YtjdamlmoegippaaDoor.dk.pv
