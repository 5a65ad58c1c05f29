/-
  Contracts of the document's counts and Right. Condition: the value reads as a request, with data of at most 10000 bytes.
-/
import Derived.Test.YtdohggpajhkkhaaRqU
namespace Go.Proofs.Ytdohggpajhkkhaa
open Go.RowKit
def cntB (p : Rq) : Bool :=
  if p.k = 3 then decide (1 ≤ p.c) && (decide (p.c ≤ 8) && decide (p.d.length = 0))
  else if p.k = 5 then decide (1 ≤ p.c) && (decide (p.c ≤ 256) && decide (p.d.length = 0))
  else if p.k = 4 then decide (512 ≤ p.d.length) && (decide (p.d.length ≤ 4096) && decide (p.d.length % 512 = 0))
  else decide (p.d.length = 0)
theorem i35 {p : Rq} (h : RQ p) (dv : Value) : (Try.prog.info? 35).map (·.size) = some (rc p dv).toArray.size := by
  rw [List.size_toArray, rc_len h]
  kernel_rfl
/-- The number, the key at a place. -/
def numA (p : Rq) (i : Nat) : Int := numL p (if i = 0 then 115 else if i = 1 then 116 else if i = 2 then 118 else if i = 3 then 98 else if i = 4 then 99 else if i = 5 then 110 else if i = 6 then 114 else 113)
def keyA (p : Rq) (i : Nat) : List Int := keyL p (if i = 0 then 111 else if i = 1 then 102 else if i = 2 then 109 else 120)
theorem row35 {W : World} {R : Nat} {p : Rq} {dv : Value} (hp : RQ p) (h : W.heap[R]? = some (.cells (rc p dv).toArray 35 (0, 0))) :
    W.cell? ⟨R, 0, none⟩ = some (.int .i64 p.k) ∧ (∀ i, i < 8 → W.cell? ⟨R, 1 + i, none⟩ = some (.int .i64 (numA p i))) ∧ W.cell? ⟨R, 137, none⟩ = some dv := by
  refine ⟨by rw [cell_of_row W R _ _ _ _ h]; rfl, fun i hi => ?_, by rw [cell_of_row W R _ _ _ _ h, arr_at, rc_dat hp]⟩
  rw [cell_of_row W R _ _ _ _ h, arr_at]
  have h8 : i = 0 ∨ i = 1 ∨ i = 2 ∨ i = 3 ∨ i = 4 ∨ i = 5 ∨ i = 6 ∨ i = 7 := by omega
  rcases h8 with rfl | rfl | rfl | rfl | rfl | rfl | rfl | rfl <;> rfl
theorem key35 {W : World} {R : Nat} {p : Rq} {dv : Value} (hp : RQ p) (h : W.heap[R]? = some (.cells (rc p dv).toArray 35 (0, 0))) (i : Nat) (hi : i < 4) : k32 (keyA p i) ∧ W.rangeAt R (9 + 32 * i) (kb (keyA p i)) := by
  have h4 : i = 0 ∨ i = 1 ∨ i = 2 ∨ i = 3 := by omega
  have key : ∀ l, isK l = true → k32 (keyL p l) ∧ W.rangeAt R (offL l) (kb (keyL p l)) := fun l hl => by
    obtain ⟨h1, h3⟩ := rc_key hl hp dv
    refine ⟨h1, fun j v hj => ?_⟩
    have hjl : j < (keyL p l).length := by
      have := (List.getElem?_eq_some_iff.1 hj).1
      rw [kb_len] at this; exact this
    rw [kb_at _ _ hjl] at hj
    have e : (⟨R, offL l, none⟩ : Addr).add j = ⟨R, offL l + j, none⟩ := addr_add R (offL l) j
    first
      | (rw [cell_of_row W R _ _ _ _ h, arr_at, h3 j (by rw [h1.1] at hjl; exact hjl)]; exact hj)
      | (rw [e, cell_of_row W R _ _ _ _ h, arr_at, h3 j (by rw [h1.1] at hjl; exact hjl)]; exact hj)
  rcases h4 with rfl | rfl | rfl | rfl
  · exact key 111 rfl
  · exact key 102 rfl
  · exact key 109 rfl
  · exact key 120 rfl
set_option maxRecDepth 100000 in
set_option maxHeartbeats 2000000 in
theorem countsC {p : Rq} (hp : RQ p) (dv : Value) (w : World) (hd : Sees w dv p.d) : Calls Try.prog 31 #[.agg (rc p dv).toArray] w fun e w' => e = .returned (.bool (cntB p)) ∧ Below w.heap.size w w' := by
  obtain ⟨x, cap, rfl, hx63⟩ := hd.form
  obtain ⟨C, hC⟩ : ∃ C, C = (rc p (.slice x p.d.length cap)).toArray := ⟨_, rfl⟩
  have ic := i35 hp (.slice x p.d.length cap)
  obtain ⟨w1, hw1⟩ : ∃ w1, w1 = w.alloc (.cells (rc p (.slice x p.d.length cap)).toArray 35) := ⟨_, rfl⟩
  have b1 : Below w.heap.size w w1 := by rw [hw1]; exact (Below.refl _ _).alloc (Nat.le_refl _) _
  have g1 : w1.heap[w.heap.size]? = some (.cells (rc p (.slice x p.d.length cap)).toArray 35 (0, 0)) := by rw [hw1]; exact heap_alloc_new w _
  obtain ⟨ck, cn, cd⟩ := row35 hp g1
  have c5 : w1.cell? ⟨w.heap.size, 5, none⟩ = some (.int .i64 p.c) := cn 4 (by omega)
  have KEYS := Lib.hid (fun i hi => key35 hp g1 i hi)
  rw [← hC] at ic g1 hw1 ⊢
  have IC := Lib.hid ic
  have G1 := Lib.hid g1
  have B1 := Lib.hid b1
  have HW1 := Lib.hid hw1
  have HC := Lib.hid hC
  have hd10 := hp.d
  obtain ⟨K, hK⟩ : ∃ K, K = p.k := ⟨_, rfl⟩
  obtain ⟨n, hn⟩ : ∃ n, n = p.d.length := ⟨_, rfl⟩
  unfold cntB
  rw [← hK] at ck
  rw [← hn] at cd hd10
  rw [← hK, ← hn]
  generalize p.c = V at c5 ⊢
  clear cn hC hw1 g1 b1 ic hd hK hn HC hx63 hp KEYS IC G1
  by_cases h3 : K = 3
  · subst h3
    rw [if_pos rfl]
    by_cases q1 : 1 ≤ V
    · have d1 : decide ((1 : Int) ≤ V) = true := decide_eq_true q1
      by_cases q2 : V ≤ 8
      · have d2 : decide (V ≤ 8) = true := decide_eq_true q2
        rw [d1, d2, Bool.true_and, Bool.true_and]
        by_cases hz : n = 0
        · subst hz
          go_enter Try.func31, Try.ntmps31
          go_wp2_with (rw [← HW1.out])
          go_ret
          exact ⟨rfl, B1.out⟩
        · have nz : ((n : Int) == 0) = false := beq_eq_false_iff_ne.2 (by omega)
          rw [show decide (n = 0) = false from decide_eq_false hz]
          clear hz
          go_enter Try.func31, Try.ntmps31
          go_wp2_with (rw [← HW1.out])
          go_ret
          exact ⟨by simp, B1.out⟩
      · have d2 : decide (V ≤ 8) = false := decide_eq_false q2
        rw [d1, d2, Bool.true_and, Bool.false_and]
        go_enter Try.func31, Try.ntmps31
        go_wp2_with (rw [← HW1.out])
        go_ret
        exact ⟨rfl, B1.out⟩
    · have d1 : decide ((1 : Int) ≤ V) = false := decide_eq_false q1
      rw [d1, Bool.false_and]
      go_enter Try.func31, Try.ntmps31
      go_wp2_with (rw [← HW1.out])
      go_ret
      exact ⟨rfl, B1.out⟩
  · have n3 : (K == 3) = false := beq_eq_false_iff_ne.2 h3
    rw [if_neg h3]
    clear h3
    by_cases h5 : K = 5
    · subst h5
      rw [if_pos rfl]
      by_cases q1 : 1 ≤ V
      · have d1 : decide ((1 : Int) ≤ V) = true := decide_eq_true q1
        by_cases q2 : V ≤ 256
        · have d2 : decide (V ≤ 256) = true := decide_eq_true q2
          rw [d1, d2, Bool.true_and, Bool.true_and]
          by_cases hz : n = 0
          · subst hz
            go_enter Try.func31, Try.ntmps31
            go_wp2_with (rw [← HW1.out])
            go_ret
            exact ⟨rfl, B1.out⟩
          · have nz : ((n : Int) == 0) = false := beq_eq_false_iff_ne.2 (by omega)
            rw [show decide (n = 0) = false from decide_eq_false hz]
            clear hz
            go_enter Try.func31, Try.ntmps31
            go_wp2_with (rw [← HW1.out])
            go_ret
            exact ⟨by simp, B1.out⟩
        · have d2 : decide (V ≤ 256) = false := decide_eq_false q2
          rw [d1, d2, Bool.true_and, Bool.false_and]
          go_enter Try.func31, Try.ntmps31
          go_wp2_with (rw [← HW1.out])
          go_ret
          exact ⟨rfl, B1.out⟩
      · have d1 : decide ((1 : Int) ≤ V) = false := decide_eq_false q1
        rw [d1, Bool.false_and]
        go_enter Try.func31, Try.ntmps31
        go_wp2_with (rw [← HW1.out])
        go_ret
        exact ⟨rfl, B1.out⟩
    · have n5 : (K == 5) = false := beq_eq_false_iff_ne.2 h5
      rw [if_neg h5]
      clear h5
      by_cases h4 : K = 4
      · subst h4
        rw [if_pos rfl]
        by_cases q1 : 512 ≤ n
        · by_cases q2 : n ≤ 4096
          · by_cases q3 : n % 512 = 0
            · rw [decide_eq_true q1, decide_eq_true q2, decide_eq_true q3]
              have e1 : (512 : Int) ≤ (n : Int) := by omega
              have e2 : (n : Int) ≤ 4096 := by omega
              have e3 : ((n : Int) % 512) = 0 := by omega
              have d1 : decide ((512 : Int) ≤ (n : Int)) = true := decide_eq_true e1
              have d2 : decide ((n : Int) ≤ 4096) = true := decide_eq_true e2
              clear q1 q2 q3
              go_enter Try.func31, Try.ntmps31
              go_wp2_with (rw [← HW1.out])
              go_ret
              exact ⟨rfl, B1.out⟩
            · rw [decide_eq_true q1, decide_eq_true q2, decide_eq_false q3]
              have e1 : (512 : Int) ≤ (n : Int) := by omega
              have e2 : (n : Int) ≤ 4096 := by omega
              have e3 : (((n : Int) % 512) == 0) = false := beq_eq_false_iff_ne.2 (by omega)
              have d1 : decide ((512 : Int) ≤ (n : Int)) = true := decide_eq_true e1
              have d2 : decide ((n : Int) ≤ 4096) = true := decide_eq_true e2
              clear q1 q2 q3
              go_enter Try.func31, Try.ntmps31
              go_wp2_with (rw [← HW1.out])
              go_ret
              exact ⟨rfl, B1.out⟩
          · rw [decide_eq_true q1, decide_eq_false q2]
            have e1 : (512 : Int) ≤ (n : Int) := by omega
            have e2 : ¬ (n : Int) ≤ 4096 := by omega
            have d1 : decide ((512 : Int) ≤ (n : Int)) = true := decide_eq_true e1
            have d2 : decide ((n : Int) ≤ 4096) = false := decide_eq_false e2
            clear q1 q2
            go_enter Try.func31, Try.ntmps31
            go_wp2_with (rw [← HW1.out])
            go_ret
            exact ⟨rfl, B1.out⟩
        · rw [decide_eq_false q1]
          have e1 : ¬ (512 : Int) ≤ (n : Int) := by omega
          have d1 : decide ((512 : Int) ≤ (n : Int)) = false := decide_eq_false e1
          clear q1
          go_enter Try.func31, Try.ntmps31
          go_wp2_with (rw [← HW1.out])
          go_ret
          exact ⟨rfl, B1.out⟩
      · have n4 : (K == 4) = false := beq_eq_false_iff_ne.2 h4
        rw [if_neg h4]
        clear h4
        by_cases hz : n = 0
        · subst hz
          go_enter Try.func31, Try.ntmps31
          go_wp2_with (rw [← HW1.out])
          go_ret
          exact ⟨rfl, B1.out⟩
        · have nz : ((n : Int) == 0) = false := beq_eq_false_iff_ne.2 (by omega)
          rw [show decide (n = 0) = false from decide_eq_false hz]
          clear hz
          go_enter Try.func31, Try.ntmps31
          go_wp2_with (rw [← HW1.out])
          go_ret
          exact ⟨by simp, B1.out⟩
end Go.Proofs.Ytdohggpajhkkhaa
