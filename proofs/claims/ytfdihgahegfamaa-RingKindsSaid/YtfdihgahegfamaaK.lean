/-
  Contracts of package ring at pairs of ints. Condition: the ring lies in memory as a size and a row.
-/
import Derived.Test.YtfdihgahegfamaaQ
import Derived.StillTailTactics
namespace Go.Proofs.Ytfdihgahegfamaa
open Go.RowKit
theorem newK (n : Nat) (h1 : 1 ≤ n) (h2 : n ≤ 65536) (w : World) :
    Calls Try.prog 28 #[.int .i64 n] w fun e w' => e = .returned (.tuple #[.pointer (some ⟨w.heap.size, 0, none⟩), .int .i64 0]) ∧ w' = w.alloc (.cells #[.int .i64 n, .slice none 0 0] 104) := by
  go_enter Try.func28, Try.ntmps28
  go_wp2
  go_ret2
  exact ⟨rfl, rfl⟩
theorem lenK {w : World} {g N n : Nat} {v : Value} {xs : List Value} (h : RG 104 56 2 w g N v n xs) : Calls Try.prog 35 #[.pointer (some ⟨g, 0, none⟩)] w fun e w' => e = .returned (.int .i64 n) ∧ w = w' := by
  obtain ⟨x, c, rfl, _, _⟩ := h.2.form
  have c1 := h.c1
  clear h
  go_enter Try.func35, Try.ntmps35
  go_wp2
  go_ret
  exact ⟨rfl, rfl⟩
theorem sizeK {w : World} {g N n : Nat} {v : Value} {xs : List Value} (h : RG 104 56 2 w g N v n xs) : Calls Try.prog 68 #[.pointer (some ⟨g, 0, none⟩)] w fun e w' => e = .returned (.int .i64 N) ∧ w = w' := by
  have c0 := h.c0
  clear h
  go_enter Try.func68, Try.ntmps68
  go_wp2
  go_ret
  exact ⟨rfl, rfl⟩
theorem hasK {w : World} {g N n : Nat} {v : Value} {xs : List Value} (h : RG 104 56 2 w g N v n xs) (i : Int) : Calls Try.prog 70 #[.pointer (some ⟨g, 0, none⟩), .int .i64 i] w fun e w' => e = .returned (.bool (decide (0 ≤ i ∧ i < n))) ∧ w = w' := by
  have H := Lib.hid h
  clear h
  by_cases h0 : 0 ≤ i
  · go_enter Try.func70, Try.ntmps70
    go_wp2_with (go_at_call 35; refine (lenK H.out).mono ?_; rintro e w' ⟨rfl, rfl⟩)
    go_ret
    exact ⟨by simp [h0], rfl⟩
  · have h1 : i < 0 := by omega
    go_enter Try.func70, Try.ntmps70
    go_wp2_with fail
    go_ret
    exact ⟨by simp; omega, rfl⟩
theorem info56 : (Try.prog.info? 56).map (fun i => (i.zero, i.size, i.bytes)) = some (some (.agg #[.int .i64 0, .int .i64 0]), 2, 16) := by kernel_rfl
theorem und102 : Try.prog.underlying 102 = some (.slice (Try.prog.elem 102)) := by kernel_rfl
theorem sz102 (W : World) : (sizeOf (Try.prog.elem 102)).run Try.prog W = .ok 2 W := by kernel_rfl
theorem zero56 (w : World) : (zeroValue 56).run Try.prog w = .ok (.agg #[.int .i64 0, .int .i64 0]) w := by kernel_rfl
set_option maxRecDepth 100000 in
set_option maxHeartbeats 400000 in
theorem delK {w : World} {v : Value} {n k : Nat} {xs : List Value} (h : Rw w 56 2 v n xs) (hk : k < n) (hn : n ≤ 65536) :
    Calls Try.prog 72 #[v, .int .i64 k, .int .i64 ((k : Int) + 1)] w (DelP 56 2 w v (n - 1) (xs.take (k * 2) ++ xs.drop ((k + 1) * 2))) := by
  obtain ⟨i, hi, hz0, hz1, hz2⟩ := info_parts info56
  obtain ⟨x, cap, rfl, hc1, hc2⟩ := h.form
  obtain ⟨b, o, rfl⟩ : ∃ b o, x = some ⟨b, o, none⟩ := by
    rcases h.2.2 with ⟨_, h2⟩ | ⟨b, o, _, _, h2, _⟩
    · omega
    · simp only [Value.slice.injEq] at h2; exact ⟨b, o, h2.1⟩
  have h' : Rw w.drew 56 2 (.slice (some ⟨b, o, none⟩) n cap) n xs := h
  obtain ⟨w1, w2, r1, r2, r3, r4⟩ := del_runs Try.underlying102 hi hz1 zero56 rfl (by simp [Value.cells, Value.oneCell']) h' hk
  have R3 := Lib.hid r3
  have R4 : Hid (Mods (fun j => j = b) w w2) := ⟨r4.os, r4.tape, r4.output, r4.size, r4.block⟩
  have s1 := fun W => run_head und102 sz102 b o n cap k (by omega) (by omega) k rfl W
  have s2 := fun W => run_tail und102 sz102 (some ⟨b, o, none⟩) n cap (k + 1) (by omega) ((k : Int) + 1) (by simp) W
  have s3 := fun W => run_mid und102 sz102 (some ⟨b, o, none⟩) (n - 1) cap (n - 1) n (by omega) (by omega) ((n - 1 : Nat) : Int) n rfl rfl W
  rw [if_neg (by omega), Option.map_some, addr_add, show n - (n - 1) = 1 by omega] at s3
  unfold maxLen at hc2
  obtain ⟨Y, hY⟩ : ∃ Y, Y = Value.slice (if cap = k + 1 then some ⟨b, o, none⟩ else (some (⟨b, o, none⟩ : Addr)).map (·.add ((k + 1) * 2))) (n - (k + 1)) (cap - (k + 1)) := ⟨_, rfl⟩
  obtain ⟨Z, hZ⟩ : ∃ Z, Z = Value.slice (some ⟨b, o + (n - 1) * 2, none⟩) 1 (cap - (n - 1)) := ⟨_, rfl⟩
  rw [← hY] at r1 s2
  rw [← hZ] at s3
  simp only [← hZ] at r2
  have R1 := Lib.hid r1
  clear h h' r1 r3 r4 hi hz0 hz1 hz2 hY hZ
  have hkc : (k : Int) + 1 ≤ cap := by omega
  have hkk : ¬ (k : Int) = (k : Int) + 1 := by omega
  go_enter Try.func72, Try.ntmps72
  go_wp2_with fail
  go_still_tail 6, (by kernel_rfl)
  change wpList _ _ _ _ _ w.drew
  clear s2
  go_wp2_with (refine wpList_appK 102 rfl (.tmp 22) (.tmp 25) rfl rfl rfl rfl R1.out ?_)
  go_ret
  exact ⟨_, rfl, R3.out, R4.out.mono (fun j hj => .inl (by simp [Value.ownBlock]; exact hj.symm)), rfl⟩
set_option maxHeartbeats 400000 in
theorem dropK_no {w : World} {g N n : Nat} {v : Value} {xs : List Value} (h : RG 104 56 2 w g N v n xs) (i : Int) (hi : ¬ (0 ≤ i ∧ i < n)) : Calls Try.prog 34 #[.pointer (some ⟨g, 0, none⟩), .int .i64 i] w fun e w' => e = .returned (.bool false) ∧ w = w' := by
  have H := Lib.hid h
  have hd : decide (0 ≤ i ∧ i < (n : Int)) = false := by simpa using hi
  have HD := Lib.hid hd
  clear h hi hd
  go_enter Try.func34, Try.ntmps34
  go_wp2_with (go_at_call 70; refine (hasK H.out i).mono ?_; rintro e w' ⟨rfl, rfl⟩; rw [HD.out])
  go_ret
  exact ⟨rfl, rfl⟩
set_option maxRecDepth 100000 in
set_option maxHeartbeats 1000000 in
theorem dropK {w : World} {g N n : Nat} {v : Value} {xs : List Value} (h : RG 104 56 2 w g N v n xs) (k : Nat) (hk : k < n) (hn : n ≤ 65536) : Calls Try.prog 34 #[.pointer (some ⟨g, 0, none⟩), .int .i64 k] w (DropP 104 56 2 w g N v (n - 1) (xs.take (k * 2) ++ xs.drop ((k + 1) * 2))) := by
  have H := Lib.hid h
  have hd : decide (0 ≤ (k : Int) ∧ (k : Int) < (n : Int)) = true := by simp; omega
  have HD := Lib.hid hd
  have c1 := h.c1
  clear h hd
  go_enter Try.func34, Try.ntmps34
  go_wp2_with (go_at_call 70; refine (hasK H.out k).mono ?_; rintro e w' ⟨rfl, rfl⟩; rw [HD.out])
  refine (delK H.out.2 hk hn).mono ?_
  rintro e w1 ⟨v1, rfl, hr, hm, ho⟩
  have ha : Anew w v v1 := fun j hj => .inl (by rw [ho] at hj; exact hj)
  obtain ⟨s1, s2, s3, s4⟩ := H.out.store hm hr (by decide) ha
  obtain ⟨y, c, rfl, _, _⟩ := hr.form
  have S3 := Lib.hid s3
  have S4 := Lib.hid s4
  have HA := Lib.hid ha
  clear s3 s4 ha hr hm ho
  go_wp2_with fail
  go_ret
  exact ⟨_, rfl, S3.out, S4.out, HA.out⟩
set_option maxRecDepth 100000 in
set_option maxHeartbeats 1000000 in
theorem atK_no {w : World} {g N n : Nat} {v : Value} {xs : List Value} (h : RG 104 56 2 w g N v n xs) (i : Int) (hi : ¬ (0 ≤ i ∧ i < n)) : Calls Try.prog 32 #[.pointer (some ⟨g, 0, none⟩), .int .i64 i] w fun e w' => e = .returned (.tuple #[.agg #[.int .i64 0, .int .i64 0], .bool false]) ∧ Below w.heap.size w w' := by
  have H := Lib.hid (h.below ((Below.refl _ _).alloc (Nat.le_refl _) (.cells #[.int .i64 0, .int .i64 0] 56)))
  have hd : decide (0 ≤ i ∧ i < (n : Int)) = false := by simpa using hi
  have HD := Lib.hid hd
  clear h hi hd
  go_enter Try.func32, Try.ntmps32
  go_wp2_with fail
  refine (hasK H.out i).mono ?_
  rintro e w' ⟨rfl, rfl⟩
  rw [HD.out]
  go_wp2_with fail
  refine bodyPost_ret (v := .tuple #[.agg #[.int .i64 0, .int .i64 0], .bool false]) (by simp [results, Try.results32, go_sem]) rfl ⟨rfl, ?_⟩
  exact ((Below.refl _ _).alloc (Nat.le_refl _) _).alloc (by simp) _
theorem alloc_below (w : World) (o : Obj) : Below w.heap.size w (w.alloc o) := (Below.refl _ _).alloc (Nat.le_refl _) _
theorem Mods.lift {S : Nat → Prop} {w w1 w2 : World} (h : Below w.heap.size w w1) (k : Mods S w1 w2) : Mods S w w2 :=
  (Mods.of_below (S := S) h).trans k (fun _ hb => .inl hb)
theorem Anew.lift {w w1 : World} {v v' : Value} (h : Below w.heap.size w w1) (k : Anew w1 v v') : Anew w v v' := fun j hj => by
  rcases k j hj with h1 | h1
  · exact .inl h1
  · exact .inr (by have := h.size; omega)
set_option maxRecDepth 100000 in
set_option maxHeartbeats 1000000 in
theorem pushK_no {w : World} {g N n : Nat} {v : Value} {xs : List Value} (h : RG 104 56 2 w g N v n xs) (hn : N ≤ n) (x y : Int) : Calls Try.prog 29 #[.pointer (some ⟨g, 0, none⟩), .agg #[.int .i64 x, .int .i64 y]] w fun e w' => e = .returned (.bool false) ∧ Below w.heap.size w w' := by
  have H := Lib.hid (h.below (alloc_below w (.cells #[.int .i64 x, .int .i64 y] 56)))
  clear h
  go_enter Try.func29, Try.ntmps29
  go_wp2_with fail
  refine (lenK H.out).mono ?_
  rintro e w' ⟨rfl, rfl⟩
  go_wp2_with fail
  refine (sizeK H.out).mono ?_
  rintro e w' ⟨rfl, rfl⟩
  go_wp2_with fail
  go_ret
  exact ⟨rfl, alloc_below _ _⟩
/-- One pair more: the run. -/
theorem pushK_run {w : World} {v : Value} {n : Nat} {xs : List Value} (h : Rw w 56 2 v n xs) (x y : Int) (hn : n + 1 ≤ 1000000) :
    ∃ z c w1, (Builtin.append_ #[102, 102] 102 #[v, .slice (some ⟨w.heap.size, 0, none⟩) 1 1]).run Try.prog (w.alloc (.cells #[.int .i64 x, .int .i64 y] 56)) = .ok (.slice z (n + 1) c) w1 ∧
      Rw w1 56 2 (.slice z (n + 1) c) (n + 1) (xs ++ [.int .i64 x, .int .i64 y]) ∧ Mods (fun k => v.ownBlock = some k) w w1 ∧ Anew w v (.slice z (n + 1) c) := by
  obtain ⟨i, hi, hz0, hz1, hz2⟩ := info_parts info56
  have hnew := heap_alloc_new w (.cells #[.int .i64 x, .int .i64 y] 56)
  have hr0 : Rw (w.alloc (.cells #[.int .i64 x, .int .i64 y] 56)) 56 2 v n xs := h.mods (S := fun _ => False) (Mods.alloc _ _) (fun _ _ => id)
  obtain ⟨v', w1, hrun, r1, r2, r3⟩ := hr0.push Try.underlying102 hi hz0 hz1 hz2 rfl (by decide) ⟨w.heap.size, 0, none⟩ 1 1 [.int .i64 x, .int .i64 y] rfl
    (fun j u hj => by rw [addr_add, cell_of_row _ _ _ _ _ _ hnew]; rcases j with _ | _ | j <;> simp at hj ⊢ <;> exact hj) (by simp [Value.oneCell']) (by unfold maxLen; omega) (by omega) (by omega)
  obtain ⟨z, c, rfl, _, _⟩ := r1.form
  refine ⟨z, c, w1, hrun, r1, (Mods.alloc w _).trans r2 (fun b hb => .inl hb), fun k hk => ?_⟩
  rcases r3 with r3 | ⟨k', h1, h2⟩
  · rw [r3] at hk; exact .inl hk
  · rw [h1] at hk
    obtain rfl := Option.some.inj hk
    simp at h2
    exact .inr (by omega)
set_option maxRecDepth 100000 in
set_option maxHeartbeats 2000000 in
theorem pushK {w : World} {g N n : Nat} {v : Value} {xs : List Value} (h : RG 104 56 2 w g N v n xs) (hn : n < N) (hN : N ≤ 65536) (x y : Int) : Calls Try.prog 29 #[.pointer (some ⟨g, 0, none⟩), .agg #[.int .i64 x, .int .i64 y]] w (PushP 104 56 2 w g N v (n + 1) (xs ++ [.int .i64 x, .int .i64 y])) := by
  have hb1 := alloc_below w (.cells #[.int .i64 x, .int .i64 y] 56)
  have h1 := h.below hb1
  have hnew := heap_alloc_new w (.cells #[.int .i64 x, .int .i64 y] 56)
  obtain ⟨gp, hgp⟩ : ∃ gp, gp = w.heap.size := ⟨_, rfl⟩
  obtain ⟨w0, hw0⟩ : ∃ w0, w0 = w.alloc (.cells #[.int .i64 x, .int .i64 y] 56) := ⟨_, rfl⟩
  rw [← hw0] at hb1 h1 hnew
  rw [← hgp] at hnew
  have h2 : RG 104 56 2 w0.drew g N v n xs := h1
  obtain ⟨z, c, w1, r1, r2, r3, r4⟩ := pushK_run h2.2 x y (by omega)
  obtain ⟨s1, s2, s3, s4⟩ := h2.store r3 r2 (by decide) r4
  have c0 : w0.cell? ⟨gp, 0, none⟩ = some (.int .i64 x) := by rw [cell_of_row _ _ _ _ _ _ hnew]; rfl
  have c1 : w0.cell? ⟨gp, 1, none⟩ = some (.int .i64 y) := by rw [cell_of_row _ _ _ _ _ _ hnew]; rfl
  have c2 := h1.c1
  have c3 : (w0.alloc (.cells #[.int .i64 x, .int .i64 y] 56)).cell? ⟨g, 1, none⟩ = some v := (h1.below (alloc_below w0 _)).c1
  obtain ⟨vx, vc, rfl, _, _⟩ := h1.2.form
  have HW := Lib.hid hw0
  have HG := Lib.hid hgp
  have H1 := Lib.hid h1
  have R1 := Lib.hid r1
  have S3 := Lib.hid s3
  have S4 : Hid (Mods (Ft g (.slice vx n vc)) w _) := Mods.lift hb1 ⟨s4.os, s4.tape, s4.output, s4.size, s4.block⟩
  have HA : Hid (Anew w (.slice vx n vc) _) := Anew.lift hb1 (fun j hj => r4 j hj)
  clear h h1 h2 r1 r2 r3 r4 s3 s4 hb1 hnew hw0 hgp
  go_enter Try.func29, Try.ntmps29
  go_wp2_with fail
  rw [← HW.out, ← HG.out]
  refine (lenK H1.out).mono ?_
  rintro e w' ⟨rfl, rfl⟩
  go_wp2_with fail
  refine (sizeK H1.out).mono ?_
  rintro e w' ⟨rfl, rfl⟩
  go_wp2_with fail
  go_region_law (refine step_app_run rfl (.tmp 14) (.tmp 16) 102 rfl rfl rfl rfl R1.out ?_)
  all_goals
    go_wp2_with fail
    go_ret
    exact ⟨_, rfl, S3.out, S4.out, HA.out⟩
set_option maxRecDepth 100000 in
set_option maxHeartbeats 1000000 in
theorem atK {w : World} {g N n : Nat} {v : Value} {xs : List Value} (h : RG 104 56 2 w g N v n xs) (k : Nat) (x y : Int) (hk0 : xs[k * 2]? = some (.int .i64 x)) (hk1 : xs[k * 2 + 1]? = some (.int .i64 y)) : Calls Try.prog 32 #[.pointer (some ⟨g, 0, none⟩), .int .i64 k] w fun e w' => e = .returned (.tuple #[.agg #[.int .i64 x, .int .i64 y], .bool true]) ∧ Below w.heap.size w w' := by
  obtain ⟨w0, hw0⟩ : ∃ w0, w0 = w.alloc (.cells #[.int .i64 0, .int .i64 0] 56) := ⟨_, rfl⟩
  obtain ⟨gp, hgp⟩ : ∃ gp, gp = w.heap.size := ⟨_, rfl⟩
  have hnew : w0.heap[gp]? = some (.cells #[.int .i64 0, .int .i64 0] 56 (0, 0)) := by rw [hw0, hgp]; exact heap_alloc_new _ _
  have h1 : RG 104 56 2 w0 g N v n xs := by rw [hw0]; exact h.below (alloc_below w _)
  have hB : Below w.heap.size w w0 := by rw [hw0]; exact alloc_below w _
  have hkn : k < n := by have h1 := (List.getElem?_eq_some_iff.1 hk1).1; have := h.2.1; omega
  have hd : decide (0 ≤ (k : Int) ∧ (k : Int) < (n : Int)) = true := by simp; omega
  obtain ⟨z, c, rfl, hc1, hc2⟩ := h1.2.form
  obtain ⟨b, o, rfl, a0, _⟩ := h1.2.cell hk0
  obtain ⟨b', o', e', a1, _⟩ := h1.2.cell hk1
  simp only [Option.some.injEq, Addr.mk.injEq] at e'
  obtain ⟨rfl, rfl, _⟩ := e'
  have a2 : w0.cell? ⟨b, o + k * 2 + 1, none⟩ = some (.int .i64 y) := by rw [Nat.add_assoc]; exact a1
  have c1 := h1.c1
  have d0 : w0.cell? ⟨gp, 0, none⟩ = some (.int .i64 0) := by rw [cell_of_row _ _ _ _ _ _ hnew]; rfl
  have d1 : w0.cell? ⟨gp, 1, none⟩ = some (.int .i64 0) := by rw [cell_of_row _ _ _ _ _ _ hnew]; rfl
  have f0 : w0.frozen? ⟨gp, 0, none⟩ = false := by simp [World.frozen?, hnew]
  have f1 : w0.frozen? ⟨gp, 1, none⟩ = false := by simp [World.frozen?, hnew]
  unfold maxLen at hc2
  have H1 := Lib.hid h1
  have HW := Lib.hid hw0
  have HG := Lib.hid hgp
  have HD := Lib.hid hd
  have HB := Lib.hid hB
  have hge : Hid (w.heap.size ≤ gp) := by show _ ≤ _; omega
  clear h h1 hd hk0 hk1 hnew hw0 hgp hB a1
  go_enter Try.func32, Try.ntmps32
  go_wp2_with fail
  rw [← HW.out, ← HG.out]
  refine (hasK H1.out k).mono ?_
  rintro e w' ⟨rfl, rfl⟩
  rw [HD.out]
  go_wp2_with fail
  refine bodyPost_ret (v := .tuple #[.agg #[.int .i64 x, .int .i64 y], .bool true]) (by simp [results, Try.results32, go_sem, d0, d1]) rfl ⟨rfl, ?_⟩
  exact (HB.out.setCell (by exact hge.out) _).setCell (by exact hge.out) _
set_option maxRecDepth 100000 in
set_option maxHeartbeats 1000000 in
theorem popK_no {w : World} {g N : Nat} {v : Value} {xs : List Value} (h : RG 104 56 2 w g N v 0 xs) : Calls Try.prog 30 #[.pointer (some ⟨g, 0, none⟩)] w fun e w' => e = .returned (.tuple #[.agg #[.int .i64 0, .int .i64 0], .bool false]) ∧ Below w.heap.size w w' := by
  obtain ⟨w0, hw0⟩ : ∃ w0, w0 = w.alloc (.cells #[.int .i64 0, .int .i64 0] 56) := ⟨_, rfl⟩
  obtain ⟨gp, hgp⟩ : ∃ gp, gp = w.heap.size := ⟨_, rfl⟩
  have hnew : w0.heap[gp]? = some (.cells #[.int .i64 0, .int .i64 0] 56 (0, 0)) := by rw [hw0, hgp]; exact heap_alloc_new _ _
  have h1 : RG 104 56 2 w0 g N v 0 xs := by rw [hw0]; exact h.below (alloc_below w _)
  have hB : Below w.heap.size w w0 := by rw [hw0]; exact alloc_below w _
  have H1 := Lib.hid h1
  have HN := Lib.hid hnew
  have HW := Lib.hid hw0
  have HG := Lib.hid hgp
  have HB := Lib.hid hB
  have hge : Hid (w.heap.size ≤ gp) := by show _ ≤ _; omega
  clear h h1 hnew hw0 hgp hB
  go_enter Try.func30, Try.ntmps30
  go_wp2_with fail
  rw [← HW.out, ← HG.out]
  refine (atK_no H1.out 0 (by omega)).mono ?_
  rintro e w1 ⟨rfl, hb⟩
  obtain ⟨gv, hgv⟩ : ∃ gv, gv = w1.heap.size := ⟨_, rfl⟩
  obtain ⟨w2, hw2⟩ : ∃ w2, w2 = w1.alloc (.cells #[.int .i64 0, .int .i64 0] 56) := ⟨_, rfl⟩
  have hn2 : w2.heap[gp]? = some (.cells #[.int .i64 0, .int .i64 0] 56 (0, 0)) := by
    rw [hw2, Below.heap_alloc _ _ _ (by have := (Array.getElem?_eq_some_iff.1 HN.out).1; have := hb.size; omega)]
    exact (hb.block gp (Array.getElem?_eq_some_iff.1 HN.out).1).trans HN.out
  have hv2 : w2.heap[gv]? = some (.cells #[.int .i64 0, .int .i64 0] 56 (0, 0)) := by rw [hw2, hgv]; exact heap_alloc_new _ _
  have hne : gp ≠ gv := by have := (Array.getElem?_eq_some_iff.1 HN.out).1; have := hb.size; omega
  have e0 : w2.cell? ⟨gp, 0, none⟩ = some (.int .i64 0) := by rw [cell_of_row _ _ _ _ _ _ hn2]; rfl
  have e1 : w2.cell? ⟨gp, 1, none⟩ = some (.int .i64 0) := by rw [cell_of_row _ _ _ _ _ _ hn2]; rfl
  have e2 : w2.frozen? ⟨gp, 0, none⟩ = false := by simp [World.frozen?, hn2]
  have e3 : w2.frozen? ⟨gp, 1, none⟩ = false := by simp [World.frozen?, hn2]
  have e4 : w2.cell? ⟨gv, 0, none⟩ = some (.int .i64 0) := by rw [cell_of_row _ _ _ _ _ _ hv2]; rfl
  have e5 : w2.cell? ⟨gv, 1, none⟩ = some (.int .i64 0) := by rw [cell_of_row _ _ _ _ _ _ hv2]; rfl
  have HB2 : Hid (Below w.heap.size w w2) := by
    show Below _ _ _
    rw [hw2]
    have b1 := HB.out.trans (hb.mono HB.out.size)
    exact b1.alloc b1.size _
  have HW2 := Lib.hid hw2
  have HGV := Lib.hid hgv
  rw [hw2] at e0 e1 e2 e3
  have hge2 := hge.out
  clear hn2 hv2 hw2 hgv hb HN e4 e5
  go_wp2_with fail
  refine bodyPost_ret (v := .tuple #[.agg #[.int .i64 0, .int .i64 0], .bool false]) (by simp [results, Try.results30, go_sem, e0, e1]) rfl ⟨rfl, ?_⟩
  rw [← HW2.out]
  exact (HB2.out.setCell hge2 _).setCell hge2 _
set_option maxRecDepth 100000 in
set_option maxHeartbeats 2000000 in
theorem popK {w : World} {g N n : Nat} {v : Value} {xs : List Value} (h : RG 104 56 2 w g N v n xs) (x y : Int) (hk0 : xs[0]? = some (.int .i64 x)) (hk1 : xs[1]? = some (.int .i64 y)) : Calls Try.prog 30 #[.pointer (some ⟨g, 0, none⟩)] w (PopP 104 56 2 w g N v (n - 1) (.agg #[.int .i64 x, .int .i64 y]) (xs.drop (1 * 2))) := by
  obtain ⟨w0, hw0⟩ : ∃ w0, w0 = w.alloc (.cells #[.int .i64 0, .int .i64 0] 56) := ⟨_, rfl⟩
  obtain ⟨gp, hgp⟩ : ∃ gp, gp = w.heap.size := ⟨_, rfl⟩
  have hn : 0 < n := by have h1 := (List.getElem?_eq_some_iff.1 hk1).1; have := h.2.1; omega
  have hnew : w0.heap[gp]? = some (.cells #[.int .i64 0, .int .i64 0] 56 (0, 0)) := by rw [hw0, hgp]; exact heap_alloc_new _ _
  have h1 : RG 104 56 2 w0 g N v n xs := by rw [hw0]; exact h.below (alloc_below w _)
  have hB : Below w.heap.size w w0 := by rw [hw0]; exact alloc_below w _
  obtain ⟨z, cap, rfl, hc1, hc2⟩ := h.2.form
  obtain ⟨b, o, rfl, _, _⟩ := h.2.cell hk0
  have hblt : b < gp := by have := h.2.lt b rfl; omega
  have hglt : g < gp := by have := h.lt; omega
  have AT := Lib.hid (atK h1 0 x y hk0 hk1)
  have t1 := fun W => run_head und102 sz102 b o n cap 1 (by omega) (by omega) 1 rfl W
  have t2 := fun W => run_tail und102 sz102 (some ⟨b, o, none⟩) n cap 1 (by omega) 1 (by simp) W
  have H1 := Lib.hid h1
  have HN := Lib.hid hnew
  have HW := Lib.hid hw0
  have HG := Lib.hid hgp
  have HB := Lib.hid hB
  unfold maxLen at hc2
  clear h h1 hnew hw0 hgp hB hk0 hk1
  go_enter Try.func30, Try.ntmps30
  go_wp2_with fail
  rw [← HW.out, ← HG.out]
  refine AT.out.mono ?_
  rintro e w1 ⟨rfl, hb⟩
  have hgpl : gp < w1.heap.size := by have := (Array.getElem?_eq_some_iff.1 HN.out).1; have := hb.size; omega
  obtain ⟨gv, hgv⟩ : ∃ gv, gv = w1.heap.size := ⟨_, rfl⟩
  obtain ⟨w2, hw2⟩ : ∃ w2, w2 = w1.alloc (.cells #[.int .i64 x, .int .i64 y] 56) := ⟨_, rfl⟩
  have hn2 : w2.heap[gp]? = some (.cells #[.int .i64 0, .int .i64 0] 56 (0, 0)) := by
    rw [hw2, Below.heap_alloc _ _ _ hgpl]
    exact (hb.block gp (Array.getElem?_eq_some_iff.1 HN.out).1).trans HN.out
  have hv2 : w2.heap[gv]? = some (.cells #[.int .i64 x, .int .i64 y] 56 (0, 0)) := by rw [hw2, hgv]; exact heap_alloc_new _ _
  have h2 : RG 104 56 2 w2 g N (.slice (some ⟨b, o, none⟩) n cap) n xs := by rw [hw2]; exact (H1.out.below hb).below (alloc_below w1 _)
  have hB2 : Below w.heap.size w w2 := by
    rw [hw2]
    have b1 := HB.out.trans (hb.mono HB.out.size)
    exact b1.alloc b1.size _
  obtain ⟨w3, r1, r2, r3, r4⟩ := pop_runs (sz := 2) Try.underlying102 zero56 rfl (by simp [Value.cells, Value.oneCell']) h2.2 hn
  have hm : Mods (fun k => (Value.slice (some ⟨b, o, none⟩) n cap).ownBlock = some k) w2 w3 := r2.mono (fun j hj => .inl (by simp [Value.ownBlock]; exact hj.symm))
  obtain ⟨s1, s2, s3, s4⟩ := h2.store hm r3 (by decide) (fun k hk => .inl (by rw [r4] at hk; exact hk))
  have ha : Anew w (.slice (some ⟨b, o, none⟩) n cap) (.slice (if cap = 1 then some ⟨b, o, none⟩ else (some (⟨b, o, none⟩ : Addr)).map (·.add (1 * 2))) (n - 1) (cap - 1)) := fun k hk => .inl (by rw [r4] at hk; exact hk)
  have hown : ∀ k, (Value.slice (if cap = 1 then some ⟨b, o, none⟩ else (some (⟨b, o, none⟩ : Addr)).map (·.add (1 * 2))) (n - 1) (cap - 1)).ownBlock = some k → k = b := fun k hk => by rw [r4] at hk; exact (Option.some.inj hk).symm
  obtain ⟨Y, hY⟩ : ∃ Y, Y = (if cap = 1 then some ⟨b, o, none⟩ else (some (⟨b, o, none⟩ : Addr)).map (·.add (1 * 2))) := ⟨_, rfl⟩
  rw [← hY] at t2 s3 s4 ha hown
  have c1 := h2.c1
  have hgvne : gv ≠ g ∧ gv ≠ b ∧ gv ≠ gp := by omega
  have kp : ∀ k cs, (k ≠ g ∧ k ≠ b) → w2.heap[k]? = some (.cells cs 56 (0, 0)) → (w3.setCell ⟨g, 1, none⟩ (.slice Y (n - 1) (cap - 1))).heap[k]? = some (.cells cs 56 (0, 0)) := fun k cs hk hh =>
    (s4.block k (Array.getElem?_eq_some_iff.1 hh).1 (fun e => by
      rcases e with e | e
      · exact hk.1 e
      · simp [Value.ownBlock] at e; exact hk.2 e.symm)).trans hh
  have hn4 := kp gp _ ⟨by omega, by omega⟩ hn2
  have hv4 := kp gv _ ⟨hgvne.1, hgvne.2.1⟩ hv2
  have e0 : (w3.setCell ⟨g, 1, none⟩ (.slice Y (n - 1) (cap - 1))).cell? ⟨gp, 0, none⟩ = some (.int .i64 0) := by rw [cell_of_row _ _ _ _ _ _ hn4]; rfl
  have e1 : (w3.setCell ⟨g, 1, none⟩ (.slice Y (n - 1) (cap - 1))).cell? ⟨gp, 1, none⟩ = some (.int .i64 0) := by rw [cell_of_row _ _ _ _ _ _ hn4]; rfl
  have e2 : (w3.setCell ⟨g, 1, none⟩ (.slice Y (n - 1) (cap - 1))).frozen? ⟨gp, 0, none⟩ = false := by simp only [World.frozen?, hn4]; simp
  have e3 : (w3.setCell ⟨g, 1, none⟩ (.slice Y (n - 1) (cap - 1))).frozen? ⟨gp, 1, none⟩ = false := by simp only [World.frozen?, hn4]; simp
  have e4 : (w3.setCell ⟨g, 1, none⟩ (.slice Y (n - 1) (cap - 1))).cell? ⟨gv, 0, none⟩ = some (.int .i64 x) := by rw [cell_of_row _ _ _ _ _ _ hv4]; rfl
  have e5 : (w3.setCell ⟨g, 1, none⟩ (.slice Y (n - 1) (cap - 1))).cell? ⟨gv, 1, none⟩ = some (.int .i64 y) := by rw [cell_of_row _ _ _ _ _ _ hv4]; rfl
  rw [hgv] at e4 e5
  rw [hw2] at c1 r1
  have HB2 := Lib.hid hB2
  have S3 := Lib.hid s3
  have S4 := Lib.hid s4
  have HA := Lib.hid ha
  have HO := Lib.hid hown
  have HGL := Lib.hid hglt
  have HBL := Lib.hid hblt
  clear hn2 hv2 hw2 hgv hb HN h2 r2 r3 r4 hm s3 s4 ha hY hn4 hv4 kp hgvne hB2 hown hglt hblt
  go_wp2_with fail
  refine bodyPost_ret (v := .tuple #[.agg #[.int .i64 x, .int .i64 y], .bool true]) (by simp [results, Try.results30, go_sem, e0, e1]) rfl ⟨_, rfl, ?_, ?_, HA.out⟩
  · exact (S3.out.mods (Mods.set (S := fun k => k = gp) _ ⟨gp, 0, none⟩ _ rfl) (by have := HGL.out; omega) (fun k hk e => by have := HO.out k hk; have := HBL.out; omega)).mods (Mods.set (S := fun k => k = gp) _ ⟨gp, 1, none⟩ _ rfl) (by have := HGL.out; omega) (fun k hk e => by have := HO.out k hk; have := HBL.out; omega)
  · exact ((Mods.lift HB2.out S4.out).trans (Mods.set (S := fun k => k = gp) _ ⟨gp, 0, none⟩ _ rfl) (fun k hk => .inr (by have := HG.out; omega))).trans (Mods.set (S := fun k => k = gp) _ ⟨gp, 1, none⟩ _ rfl) (fun k hk => .inr (by have := HG.out; omega))
end Go.Proofs.Ytfdihgahegfamaa
