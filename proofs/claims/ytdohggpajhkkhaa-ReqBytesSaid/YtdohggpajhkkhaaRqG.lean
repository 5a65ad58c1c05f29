/-
  Contracts of req.Blocks, mayCount, Same and the reader's End. Condition: the values read as requests.
-/
import Derived.Test.YtdohggpajhkkhaaRqF
namespace Go.Proofs.Ytdohggpajhkkhaa
open Go.RowKit
/-- How many blocks a request has to do with. -/
def blkI (p : Rq) : Int := if p.k = 3 then p.c else if p.k = 5 then p.c else if p.k = 4 then ((p.d.length / 512 : Nat) : Int) else 0
set_option maxRecDepth 100000 in
set_option maxHeartbeats 1000000 in
theorem blocks {p : Rq} (hp : RQ p) (dv : Value) (w : World) (hd : Sees w dv p.d) : Calls Try.prog 18 #[.agg (rc p dv).toArray] w fun e w' => e = .returned (.int .i64 (blkI p)) ∧ Below w.heap.size w w' := by
  obtain ⟨x, cap, rfl, hx63⟩ := hd.form
  obtain ⟨C, hC⟩ : ∃ C, C = (rc p (.slice x p.d.length cap)).toArray := ⟨_, rfl⟩
  have ic := i26 hp (.slice x p.d.length cap)
  obtain ⟨w1, hw1⟩ : ∃ w1, w1 = w.alloc (.cells (rc p (.slice x p.d.length cap)).toArray 26) := ⟨_, rfl⟩
  have b1 : Below w.heap.size w w1 := by rw [hw1]; exact (Below.refl _ _).alloc (Nat.le_refl _) _
  have g1 : w1.heap[w.heap.size]? = some (.cells (rc p (.slice x p.d.length cap)).toArray 26 (0, 0)) := by rw [hw1]; exact heap_alloc_new w _
  have ck : w1.cell? ⟨w.heap.size, 0, none⟩ = some (.int .i64 p.k) := by rw [cell_of_row w1 _ _ _ _ _ g1]; rfl
  have cn := row_num g1 (l := 99) rfl
  have cd := row_dat hp g1
  rw [← hC] at ic g1 hw1 ⊢
  have IC := Lib.hid ic
  have G1 := Lib.hid g1
  have B1 := Lib.hid b1
  have HW1 := Lib.hid hw1
  have HC := Lib.hid hC
  have hd10 := hp.d
  have cn5 : w1.cell? ⟨w.heap.size, 5, none⟩ = some (.int .i64 p.c) := cn
  obtain ⟨K, hK⟩ : ∃ K, K = p.k := ⟨_, rfl⟩
  obtain ⟨V, hV⟩ : ∃ V, V = p.c := ⟨_, rfl⟩
  obtain ⟨n, hn⟩ : ∃ n, n = p.d.length := ⟨_, rfl⟩
  unfold blkI
  rw [← hK, ← hV, ← hn]
  rw [← hK] at ck
  rw [← hV] at cn5
  rw [← hn] at cd hd10
  clear cn hC hw1 g1 b1 ic hd hK hV hn IC G1 HC hx63 hp
  have e512 : ((n : Int)).tdiv 512 = ((n / 512 : Nat) : Int) := by
    rw [Int.tdiv_eq_ediv_of_nonneg (by omega)]; omega
  have E512 := Lib.hid e512
  clear e512
  by_cases h3 : K = 3
  · subst h3
    rw [if_pos rfl]
    go_enter Try.func18, Try.ntmps18
    go_wp2_with (rw [← HW1.out])
    go_ret
    exact ⟨rfl, by first | exact B1.out | (rw [← HW1.out]; exact B1.out)⟩
  · have n3 : (K == 3) = false := beq_eq_false_iff_ne.2 h3
    rw [if_neg h3]
    clear h3
    by_cases h5 : K = 5
    · subst h5
      rw [if_pos rfl]
      go_enter Try.func18, Try.ntmps18
      go_wp2_with (rw [← HW1.out])
      go_ret
      exact ⟨rfl, by first | exact B1.out | (rw [← HW1.out]; exact B1.out)⟩
    · have n5 : (K == 5) = false := beq_eq_false_iff_ne.2 h5
      rw [if_neg h5]
      clear h5
      by_cases h4 : K = 4
      · subst h4
        rw [if_pos rfl]
        go_enter Try.func18, Try.ntmps18
        go_wp2_with (rw [← HW1.out])
        go_ret
        exact ⟨by first | rfl | (rw [← E512.out]) | simp, by first | exact B1.out | (rw [← HW1.out]; exact B1.out)⟩
      · have n4 : (K == 4) = false := beq_eq_false_iff_ne.2 h4
        rw [if_neg h4]
        clear h4
        go_enter Try.func18, Try.ntmps18
        go_wp2_with (rw [← HW1.out])
        go_ret
        exact ⟨rfl, by first | exact B1.out | (rw [← HW1.out]; exact B1.out)⟩
/-- May a request have to do with so many? -/
def mayB (p : Rq) : Bool :=
  if p.k = 3 then decide (1 ≤ p.c) && decide (p.c ≤ 8)
  else if p.k = 4 then decide (p.d.length % 512 = 0) && (decide (1 ≤ p.d.length / 512) && decide (p.d.length / 512 ≤ 8))
  else if p.k = 5 then decide (1 ≤ p.c) && decide (p.c ≤ 256)
  else true
theorem blk3 {p : Rq} (h : p.k = 3) : blkI p = p.c := by unfold blkI; rw [if_pos h]
theorem blk5 {p : Rq} (h : p.k = 5) : blkI p = p.c := by unfold blkI; rw [if_neg (by omega), if_pos h]
theorem blk4 {p : Rq} (h : p.k = 4) : blkI p = ((p.d.length / 512 : Nat) : Int) := by unfold blkI; rw [if_neg (by omega), if_neg (by omega), if_pos h]
theorem blk0 {p : Rq} (h3 : p.k ≠ 3) (h4 : p.k ≠ 4) (h5 : p.k ≠ 5) : blkI p = 0 := by unfold blkI; rw [if_neg h3, if_neg h5, if_neg h4]
set_option maxRecDepth 100000 in
set_option maxHeartbeats 2000000 in
theorem mayCount {p : Rq} (hp : RQ p) (dv : Value) (w : World) (hd : Sees w dv p.d) : Calls Try.prog 28 #[.agg (rc p dv).toArray] w fun e w' => e = .returned (.bool (mayB p)) ∧ Below w.heap.size w w' := by
  obtain ⟨x, cap, rfl, hx63⟩ := hd.form
  obtain ⟨C, hC⟩ : ∃ C, C = (rc p (.slice x p.d.length cap)).toArray := ⟨_, rfl⟩
  have ic := i26 hp (.slice x p.d.length cap)
  obtain ⟨w1, hw1⟩ : ∃ w1, w1 = w.alloc (.cells (rc p (.slice x p.d.length cap)).toArray 26) := ⟨_, rfl⟩
  have b1 : Below w.heap.size w w1 := by rw [hw1]; exact (Below.refl _ _).alloc (Nat.le_refl _) _
  have g1 : w1.heap[w.heap.size]? = some (.cells (rc p (.slice x p.d.length cap)).toArray 26 (0, 0)) := by rw [hw1]; exact heap_alloc_new w _
  have ck : w1.cell? ⟨w.heap.size, 0, none⟩ = some (.int .i64 p.k) := by rw [cell_of_row w1 _ _ _ _ _ g1]; rfl
  have cn := row_num g1 (l := 99) rfl
  have cd := row_dat hp g1
  rw [← hC] at ic g1 hw1 ⊢
  have IC := Lib.hid ic
  have G1 := Lib.hid g1
  have B1 := Lib.hid b1
  have HW1 := Lib.hid hw1
  have HC := Lib.hid hC
  have hd10 := hp.d
  have BL : Hid (∀ W, Below w1.heap.size w1 W → Calls Try.prog 18 #[.agg C] W fun e w' => e = .returned (.int .i64 (blkI p)) ∧ Below W.heap.size W w') := fun W hb => by
    rw [HC.out]
    exact blocks hp _ W (hd.below (b1.trans (hb.mono b1.size)))
  have m3 := @blk3 p
  have m4 := @blk4 p
  have m5 := @blk5 p
  have m0 := @blk0 p
  obtain ⟨K, hK⟩ : ∃ K, K = p.k := ⟨_, rfl⟩
  obtain ⟨n, hn⟩ : ∃ n, n = p.d.length := ⟨_, rfl⟩
  obtain ⟨X, hX⟩ : ∃ X, X = blkI p := ⟨_, rfl⟩
  unfold mayB
  rw [← hX] at BL m3 m4 m5 m0
  rw [← hK] at ck m3 m4 m5 m0
  rw [← hn] at cd hd10 m4
  rw [← hK, ← hn]
  have BI := Lib.hid hp.c
  unfold i64 at BI
  generalize p.c = V at m3 m5 BI ⊢
  clear cn hC hw1 g1 b1 ic hd hK hn hX HC hx63 hp
  have LT : Hid (w.heap.size < w1.heap.size) := blk_lt G1.out
  by_cases h3 : K = 3
  · have e := m3 h3
    subst h3
    subst e
    rw [if_pos rfl]
    clear m3 m4 m5 m0
    by_cases q1 : 1 ≤ X
    · by_cases q2 : X ≤ 8
      · rw [show (decide (1 ≤ X) && decide (X ≤ 8)) = true by simp; omega]
        have d1 : decide ((1 : Int) ≤ X) = true := decide_eq_true q1
        have d2 : decide (X ≤ 8) = true := decide_eq_true q2
        go_enter Try.func28, Try.ntmps28
        go_wp2_with (first | rw [← HW1.out] | refine wpList_load_row rfl 26 (.tmp 1) rfl w.heap.size rfl 26 C (0, 0) _ G1.out Try.underlying26 rfl IC.out ?_)
        refine (BL.out _ (Below.refl _ _)).mono ?_
        rintro e w2 ⟨rfl, hb⟩
        have B2 := Lib.hid (B1.out.trans (hb.mono B1.out.size))
        clear hb
        go_wp2
        go_ret
        exact ⟨rfl, B2.out⟩
      · rw [show (decide (1 ≤ X) && decide (X ≤ 8)) = false by simp; omega]
        have d1 : decide ((1 : Int) ≤ X) = true := decide_eq_true q1
        have d2 : decide (X ≤ 8) = false := decide_eq_false q2
        go_enter Try.func28, Try.ntmps28
        go_wp2_with (first | rw [← HW1.out] | refine wpList_load_row rfl 26 (.tmp 1) rfl w.heap.size rfl 26 C (0, 0) _ G1.out Try.underlying26 rfl IC.out ?_)
        refine (BL.out _ (Below.refl _ _)).mono ?_
        rintro e w2 ⟨rfl, hb⟩
        have B2 := Lib.hid (B1.out.trans (hb.mono B1.out.size))
        clear hb
        go_wp2
        go_ret
        exact ⟨rfl, B2.out⟩
    · rw [show (decide (1 ≤ X) && decide (X ≤ 8)) = false by simp; omega]
      have d1 : decide ((1 : Int) ≤ X) = false := decide_eq_false q1
      go_enter Try.func28, Try.ntmps28
      go_wp2_with (first | rw [← HW1.out] | refine wpList_load_row rfl 26 (.tmp 1) rfl w.heap.size rfl 26 C (0, 0) _ G1.out Try.underlying26 rfl IC.out ?_)
      refine (BL.out _ (Below.refl _ _)).mono ?_
      rintro e w2 ⟨rfl, hb⟩
      have B2 := Lib.hid (B1.out.trans (hb.mono B1.out.size))
      clear hb
      go_wp2
      go_ret
      exact ⟨rfl, B2.out⟩
  · have n3 : (K == 3) = false := beq_eq_false_iff_ne.2 h3
    rw [if_neg h3]
    clear m3
    by_cases h4 : K = 4
    · have e := m4 h4
      subst h4
      rw [if_pos rfl]
      clear m4 m5 m0 h3
      by_cases hr : n % 512 = 0
      · rw [show decide (n % 512 = 0) = true from decide_eq_true hr, Bool.true_and]
        have hr2 : ((n : Int) % 512) = 0 := by omega
        clear hr
        obtain ⟨Y, hY⟩ : ∃ Y, Y = n / 512 := ⟨_, rfl⟩
        rw [← hY] at e ⊢
        subst e
        clear hY
        by_cases q1 : 1 ≤ (Y : Int)
        · by_cases q2 : (Y : Int) ≤ 8
          · rw [show (decide (1 ≤ Y) && decide (Y ≤ 8)) = true by simp; omega]
            have d1 : decide ((1 : Int) ≤ (Y : Int)) = true := decide_eq_true q1
            have d2 : decide ((Y : Int) ≤ 8) = true := decide_eq_true q2
            go_enter Try.func28, Try.ntmps28
            go_wp2_with (first | rw [← HW1.out] | refine wpList_load_row rfl 26 (.tmp 1) rfl w.heap.size rfl 26 C (0, 0) _ G1.out Try.underlying26 rfl IC.out ?_)
            refine (BL.out _ (Below.refl _ _)).mono ?_
            rintro e w2 ⟨rfl, hb⟩
            have B2 := Lib.hid (B1.out.trans (hb.mono B1.out.size))
            clear hb
            go_wp2
            go_ret
            exact ⟨rfl, B2.out⟩
          · rw [show (decide (1 ≤ Y) && decide (Y ≤ 8)) = false by simp; omega]
            have d1 : decide ((1 : Int) ≤ (Y : Int)) = true := decide_eq_true q1
            have d2 : decide ((Y : Int) ≤ 8) = false := decide_eq_false q2
            go_enter Try.func28, Try.ntmps28
            go_wp2_with (first | rw [← HW1.out] | refine wpList_load_row rfl 26 (.tmp 1) rfl w.heap.size rfl 26 C (0, 0) _ G1.out Try.underlying26 rfl IC.out ?_)
            refine (BL.out _ (Below.refl _ _)).mono ?_
            rintro e w2 ⟨rfl, hb⟩
            have B2 := Lib.hid (B1.out.trans (hb.mono B1.out.size))
            clear hb
            go_wp2
            go_ret
            exact ⟨rfl, B2.out⟩
        · rw [show (decide (1 ≤ Y) && decide (Y ≤ 8)) = false by simp; omega]
          have d1 : decide ((1 : Int) ≤ (Y : Int)) = false := decide_eq_false q1
          go_enter Try.func28, Try.ntmps28
          go_wp2_with (first | rw [← HW1.out] | refine wpList_load_row rfl 26 (.tmp 1) rfl w.heap.size rfl 26 C (0, 0) _ G1.out Try.underlying26 rfl IC.out ?_)
          refine (BL.out _ (Below.refl _ _)).mono ?_
          rintro e w2 ⟨rfl, hb⟩
          have B2 := Lib.hid (B1.out.trans (hb.mono B1.out.size))
          clear hb
          go_wp2
          go_ret
          exact ⟨rfl, B2.out⟩
      · rw [show decide (n % 512 = 0) = false from decide_eq_false hr, Bool.false_and]
        have hr2 : (((n : Int) % 512) == 0) = false := beq_eq_false_iff_ne.2 (by omega)
        have hr3 : (((n : Int) % 512) != 0) = true := by simp [bne, hr2]
        clear hr e
        go_enter Try.func28, Try.ntmps28
        go_wp2_with (first | rw [← HW1.out] | refine wpList_load_row rfl 26 (.tmp 1) rfl w.heap.size rfl 26 C (0, 0) _ G1.out Try.underlying26 rfl IC.out ?_)
        go_ret
        exact ⟨rfl, B1.out⟩
    · have n4 : (K == 4) = false := beq_eq_false_iff_ne.2 h4
      rw [if_neg h4]
      clear m4
      by_cases h5 : K = 5
      · have e := m5 h5
        subst h5
        subst e
        rw [if_pos rfl]
        clear m5 m0 h3 h4
        by_cases q1 : 1 ≤ X
        · by_cases q2 : X ≤ 256
          · rw [show (decide (1 ≤ X) && decide (X ≤ 256)) = true by simp; omega]
            have d1 : decide ((1 : Int) ≤ X) = true := decide_eq_true q1
            have d2 : decide (X ≤ 256) = true := decide_eq_true q2
            go_enter Try.func28, Try.ntmps28
            go_wp2_with (first | rw [← HW1.out] | refine wpList_load_row rfl 26 (.tmp 1) rfl w.heap.size rfl 26 C (0, 0) _ G1.out Try.underlying26 rfl IC.out ?_)
            refine (BL.out _ (Below.refl _ _)).mono ?_
            rintro e w2 ⟨rfl, hb⟩
            have B2 := Lib.hid (B1.out.trans (hb.mono B1.out.size))
            clear hb
            go_wp2
            go_ret
            exact ⟨rfl, B2.out⟩
          · rw [show (decide (1 ≤ X) && decide (X ≤ 256)) = false by simp; omega]
            have d1 : decide ((1 : Int) ≤ X) = true := decide_eq_true q1
            have d2 : decide (X ≤ 256) = false := decide_eq_false q2
            go_enter Try.func28, Try.ntmps28
            go_wp2_with (first | rw [← HW1.out] | refine wpList_load_row rfl 26 (.tmp 1) rfl w.heap.size rfl 26 C (0, 0) _ G1.out Try.underlying26 rfl IC.out ?_)
            refine (BL.out _ (Below.refl _ _)).mono ?_
            rintro e w2 ⟨rfl, hb⟩
            have B2 := Lib.hid (B1.out.trans (hb.mono B1.out.size))
            clear hb
            go_wp2
            go_ret
            exact ⟨rfl, B2.out⟩
        · rw [show (decide (1 ≤ X) && decide (X ≤ 256)) = false by simp; omega]
          have d1 : decide ((1 : Int) ≤ X) = false := decide_eq_false q1
          go_enter Try.func28, Try.ntmps28
          go_wp2_with (first | rw [← HW1.out] | refine wpList_load_row rfl 26 (.tmp 1) rfl w.heap.size rfl 26 C (0, 0) _ G1.out Try.underlying26 rfl IC.out ?_)
          refine (BL.out _ (Below.refl _ _)).mono ?_
          rintro e w2 ⟨rfl, hb⟩
          have B2 := Lib.hid (B1.out.trans (hb.mono B1.out.size))
          clear hb
          go_wp2
          go_ret
          exact ⟨rfl, B2.out⟩
      · have n5 : (K == 5) = false := beq_eq_false_iff_ne.2 h5
        rw [if_neg h5]
        have e := m0 h3 h4 h5
        subst e
        clear m5 m0 h3 h4 h5
        go_enter Try.func28, Try.ntmps28
        go_wp2_with (first | rw [← HW1.out] | refine wpList_load_row rfl 26 (.tmp 1) rfl w.heap.size rfl 26 C (0, 0) _ G1.out Try.underlying26 rfl IC.out ?_)
        refine (BL.out _ (Below.refl _ _)).mono ?_
        rintro e w2 ⟨rfl, hb⟩
        have B2 := Lib.hid (B1.out.trans (hb.mono B1.out.size))
        clear hb
        go_wp2
        go_ret
        exact ⟨rfl, B2.out⟩

set_option maxRecDepth 100000 in
theorem endR (g : Nat) (xs : List Int) (s : Bool) (w : World) (h : rx.RD w g xs s) : Calls Try.prog 27 #[.pointer (some ⟨g, 0, none⟩)] w fun e w' => e = .returned (.int .i64 (endE xs s)) ∧ w = w' := by
  obtain ⟨_, b, o, cap, hg, _, hl, hm, _⟩ := h
  have c0 : w.cell? ⟨g, 0, none⟩ = some (.slice (some ⟨b, o, none⟩) xs.length cap) := by rw [cell_of_row w g 0 _ _ _ hg]; rfl
  have c1 : w.cell? ⟨g, 1, none⟩ = some (.bool s) := by rw [cell_of_row w g 1 _ _ _ hg]; rfl
  clear hg hl hm
  unfold endE
  cases s with
  | true =>
    rw [if_pos rfl]
    go_enter Try.func27, Try.ntmps27
    go_wp2
    go_ret
    exact ⟨rfl, rfl⟩
  | false =>
    rw [if_neg (by simp)]
    cases xs with
    | nil =>
      rw [if_pos rfl]
      go_enter Try.func27, Try.ntmps27
      go_wp2
      go_ret
      exact ⟨rfl, rfl⟩
    | cons x r =>
      rw [if_neg (by simp)]
      have hp : (0 : Int) < ((x :: r).length : Int) := by simp
      have hd : decide (0 < (x :: r).length) = true := by simp
      generalize (x :: r).length = n at *
      go_enter Try.func27, Try.ntmps27
      go_wp2
      go_ret
      exact ⟨rfl, rfl⟩
end Go.Proofs.Ytdohggpajhkkhaa
