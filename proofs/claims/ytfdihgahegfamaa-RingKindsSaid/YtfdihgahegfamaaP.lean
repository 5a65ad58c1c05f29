/-
  Contracts of the document's own ring: Push, At, Drop, Pop, Find. Condition: the ring lies in memory as a size and a row.
-/
import Derived.Test.YtfdihgahegfamaaO
import Derived.Deep.QuietTactic
import Derived.BigQuiet
import Derived.Deep.LoopGhost
namespace Go.Proofs.Ytfdihgahegfamaa
open Go.RowKit
set_option maxHeartbeats 400000 in
theorem refAt_no {w : World} {g N n : Nat} {v : Value} {xs : List Value} (h : RG 31 3 1 w g N v n xs) (i : Int) (hi : ¬ (0 ≤ i ∧ i < n)) : Calls Try.prog 60 #[.pointer (some ⟨g, 0, none⟩), .int .i64 i] w fun e w' => e = .returned (.tuple #[.int .i64 0, .bool false]) ∧ w = w' := by
  obtain ⟨y, c, rfl, hc1, hc2⟩ := h.2.form
  have c1 := h.c1
  clear h
  by_cases h0 : i < 0
  · clear hi
    go_enter Try.func60, Try.ntmps60
    go_wp2_with fail
    go_ret2
    exact ⟨rfl, rfl⟩
  · have h2 : (n : Int) ≤ i := by omega
    clear hi
    go_enter Try.func60, Try.ntmps60
    go_wp2_with fail
    go_ret2
    exact ⟨rfl, rfl⟩
set_option maxHeartbeats 400000 in
theorem refAt {w : World} {g N n : Nat} {v : Value} {xs : List Value} (h : RG 31 3 1 w g N v n xs) (k : Nat) (x : Int) (hk : xs[k]? = some (.int .i64 x)) : Calls Try.prog 60 #[.pointer (some ⟨g, 0, none⟩), .int .i64 k] w fun e w' => e = .returned (.tuple #[.int .i64 x, .bool true]) ∧ w = w' := by
  have hkn : k < n := by have h1 := (List.getElem?_eq_some_iff.1 hk).1; have := h.2.1; omega
  have c1 := h.c1
  obtain ⟨y, c, rfl, hc1, hc2⟩ := h.2.form
  obtain ⟨b, o, rfl, h1, h2⟩ := h.2.cell hk
  unfold maxLen at hc2
  have h3 : ¬ n ≤ k := by omega
  clear h hk
  go_enter Try.func60, Try.ntmps60
  go_wp2_with fail
  go_ret2
  exact ⟨rfl, rfl⟩
set_option maxRecDepth 100000 in
set_option maxHeartbeats 1000000 in
theorem refPush_no {w : World} {g N n : Nat} {v : Value} {xs : List Value} (h : RG 31 3 1 w g N v n xs) (hn : N ≤ n) (x : Value) : Calls Try.prog 58 #[.pointer (some ⟨g, 0, none⟩), x] w fun e w' => e = .returned (.bool false) ∧ ∃ q, w' = w.drewN q := by
  obtain ⟨y, c, rfl, hc1, hc2⟩ := h.2.form
  have c0 : ∀ q, (w.drewN q).cell? ⟨g, 0, none⟩ = some (.int .i64 N) := fun q => h.c0
  have c1 : ∀ q, (w.drewN q).cell? ⟨g, 1, none⟩ = some (.slice y n c) := fun q => h.c1
  have c0' := h.c0
  have c1' := h.c1
  have hd : decide (N ≤ n) = true := by simpa using hn
  clear h hn
  go_enter Try.func58, Try.ntmps58
  go_wp2_with fail
  go_quiet (fail)
  go_wp2_with fail
  go_ret
  exact ⟨rfl, _, rfl⟩
set_option maxRecDepth 100000 in
set_option maxHeartbeats 2000000 in
theorem refPush {w : World} {g N n : Nat} {v : Value} {xs : List Value} (h : RG 31 3 1 w g N v n xs) (hn : n < N) (hN : N ≤ 65536) (x : Int) : Calls Try.prog 58 #[.pointer (some ⟨g, 0, none⟩), .int .i64 x] w (PushP 31 3 1 w g N v (n + 1) (xs ++ [.int .i64 x])) := by
  have h1 : ∀ q, RG 31 3 1 (w.drewN q) g N v n xs := fun q => h
  obtain ⟨i, hi, hz0, hz1, hz2⟩ := info_parts info3
  have key : ∀ q, ∃ y c w1, (Builtin.append_ #[29, 29] 29 #[v, .slice (some ⟨w.heap.size, 0, none⟩) 1 1]).run Try.prog ((w.drewN q).alloc (.cells #[.int .i64 x] 3)) = .ok (.slice y (n + 1) c) w1 ∧
      w1.cell? ⟨g, 1, none⟩ = some v ∧ w1.frozen? ⟨g, 1, none⟩ = false ∧ RG 31 3 1 (w1.setCell ⟨g, 1, none⟩ (.slice y (n + 1) c)) g N (.slice y (n + 1) c) (n + 1) (xs ++ [.int .i64 x]) ∧ Mods (Ft g v) w (w1.setCell ⟨g, 1, none⟩ (.slice y (n + 1) c)) ∧ Anew w v (.slice y (n + 1) c) := by
    intro q
    have hnew : ((w.drewN q).alloc (.cells #[.int .i64 x] 3)).heap[w.heap.size]? = some (.cells #[.int .i64 x] 3 (0, 0)) := heap_alloc_new (w.drewN q) (.cells #[.int .i64 x] 3)
    have hr0 : Rw ((w.drewN q).alloc (.cells #[.int .i64 x] 3)) 3 1 v n xs := (h1 q).2.mods (S := fun _ => False) (Mods.alloc _ _) (fun _ _ => id)
    obtain ⟨v', w1, hrun, r1, r2, r3⟩ := hr0.push Try.underlying29 hi hz0 hz1 hz2 rfl (by decide) ⟨w.heap.size, 0, none⟩ 1 1 [.int .i64 x] rfl
      (fun j u hj => by rw [addr_add, cell_of_row _ _ _ _ _ _ hnew]; rcases j with _ | j <;> simp at hj ⊢; exact hj) (by simp [Value.oneCell']) (by unfold maxLen; omega) (by omega) (by omega)
    have ha : Anew w v v' := fun k hk => by
      rcases r3 with r3 | ⟨k', h1, h2⟩
      · rw [r3] at hk; exact .inl hk
      · rw [h1] at hk
        obtain rfl := Option.some.inj hk
        simp at h2
        have : (w.drewN q).heap.size = w.heap.size := rfl
        exact .inr (by omega)
    have hm : Mods (fun k => v.ownBlock = some k) (w.drewN q) w1 := (Mods.alloc _ _).trans r2 (fun b hb => .inl hb)
    obtain ⟨s1, s2, s3, s4⟩ := (h1 q).store hm r1 (by decide) ha
    obtain ⟨y, c, rfl, _, _⟩ := r1.form
    exact ⟨y, c, w1, hrun, s1, s2, s3, ⟨s4.os, s4.tape, s4.output, s4.size, s4.block⟩, ha⟩
  have KEY := Lib.hid key
  have c0 : ∀ q, (w.drewN q).cell? ⟨g, 0, none⟩ = some (.int .i64 N) := fun q => h.c0
  have c1 : ∀ q, (w.drewN q).cell? ⟨g, 1, none⟩ = some v := fun q => h.c1
  have c0' := h.c0
  have c1' := h.c1
  obtain ⟨y0, cc, rfl, hc1, hc2⟩ := h.2.form
  have hd : decide (N ≤ n) = false := by simp; omega
  clear h hn key h1 hi hz0 hz1 hz2
  go_enter Try.func58, Try.ntmps58
  go_wp2_with fail
  go_quiet (fail)
  obtain ⟨y, c, w1, k1, k2, k3, k4, k5, k6⟩ := KEY.out nq
  have K1 := Lib.hid k1
  have K4 := Lib.hid k4
  have K5 := Lib.hid k5
  have K6 := Lib.hid k6
  clear k1 k4 k5 k6 KEY
  go_wp2_with (at_builtin; refine wpList_appK 29 rfl (.tmp 19) (.tmp 21) rfl rfl rfl rfl K1.out ?_)
  go_ret
  exact ⟨_, rfl, K4.out, K5.out, K6.out⟩
/-- The two appends of the document's Drop, as runs. -/
theorem refDrop_runs {w : World} {b o n cap k : Nat} {xs : List Value} (h : Rw w 3 1 (.slice (some ⟨b, o, none⟩) n cap) n xs) (hk : k < n) (hn : n ≤ 65536) :
    ∃ v1 w1 y c w2, (Builtin.append_ #[29, 29] 29 #[.slice none 0 0, .slice (some ⟨b, o, none⟩) k cap]).run Try.prog w = .ok v1 w1 ∧ Mods (fun _ => False) w w1 ∧ Mods (fun _ => False) w w2 ∧
      (Builtin.append_ #[29, 29] 29 #[v1, .slice (if cap = k + 1 then some ⟨b, o, none⟩ else (some (⟨b, o, none⟩ : Addr)).map (·.add ((k + 1) * 1))) (n - (k + 1)) (cap - (k + 1))]).run Try.prog w1 = .ok (.slice y (n - 1) c) w2 ∧
      Rw w2 3 1 (.slice y (n - 1) c) (n - 1) (xs.take (k * 1) ++ xs.drop ((k + 1) * 1)) ∧ (∀ j, (Value.slice y (n - 1) c).ownBlock = some j → w.heap.size ≤ j) := by
  obtain ⟨i, hi, hz0, hz1, hz2⟩ := info_parts info3
  obtain ⟨hl, h1, ⟨h2, _⟩ | ⟨b', o', cap', cs, h2, hg, h3, h4, h5, h6⟩⟩ := h
  · simp at h2
  simp only [Value.slice.injEq, Option.some.injEq, Addr.mk.injEq] at h2
  obtain ⟨⟨rfl, rfl, _⟩, _, rfl⟩ := h2
  have hnl : (xs.drop ((k + 1) * 1)).length = (n - (k + 1)) * 1 := by rw [List.length_drop, hl]; omega
  have htl : (xs.take (k * 1)).length = k * 1 := by rw [List.length_take, hl]; omega
  have hblt := (Array.getElem?_eq_some_iff.1 hg).1
  obtain ⟨v1, w1, r1, o1, g1, _⟩ := run_append_own (P := Try.prog) w w.heap.size 29 29 3 i _ 1 8 Try.underlying29 hi hz0 hz1 hz2 rfl (by decide) (.slice none 0 0) 0 [] (World.ownsRow_nil w _ 3 1) ⟨b, o, none⟩ k cap (xs.take (k * 1)) htl
    (fun j u hj => by
      have hjl := (List.getElem?_eq_some_iff.1 hj).1
      rw [List.getElem?_take_of_lt (by omega)] at hj
      rw [addr_add, cell_of_row _ _ _ _ _ _ hg]; exact h6 j u hj) (fun u hu => h1 u (List.mem_of_mem_take hu)) (by unfold maxLen; omega) (by omega) (Nat.le_refl _)
  simp only [Nat.zero_add, List.nil_append] at o1
  have hg1 : w1.heap[b]? = some (.cells cs 3 (0, 0)) := (g1.block b hblt (by simp [Value.ownBlock])).trans hg
  obtain ⟨A, hA, hA2⟩ : ∃ A : Addr, (if cap = k + 1 then some (⟨b, o, none⟩ : Addr) else (some (⟨b, o, none⟩ : Addr)).map (·.add ((k + 1) * 1))) = some A ∧ ∀ j u, (xs.drop ((k + 1) * 1))[j]? = some u → w1.cell? (A.add j) = some u := by
    by_cases hc : cap = k + 1
    · refine ⟨_, if_pos hc, fun j u hj => ?_⟩
      have := (List.getElem?_eq_some_iff.1 hj).1
      rw [hnl, show n - (k + 1) = 0 by omega] at this
      simp at this
    · refine ⟨⟨b, o + (k + 1) * 1, none⟩, by rw [if_neg hc, Option.map_some, addr_add], fun j u hj => ?_⟩
      rw [List.getElem?_drop] at hj
      rw [addr_add, cell_of_row _ _ _ _ _ _ hg1, Nat.add_assoc]
      exact h6 _ u hj
  rw [hA]
  obtain ⟨v2, w2, r2, o2, g2, _⟩ := run_append_own (P := Try.prog) w1 w.heap.size 29 29 3 i _ 1 8 Try.underlying29 hi hz0 hz1 hz2 rfl (by decide) v1 k (xs.take (k * 1)) o1 A (n - (k + 1)) (cap - (k + 1)) (xs.drop ((k + 1) * 1)) hnl hA2
    (fun u hu => h1 u (List.mem_of_mem_drop hu)) (by unfold maxLen; omega) (by omega) g1.size
  rw [show k + (n - (k + 1)) = n - 1 by omega] at o2
  have hone : ∀ u ∈ xs.take (k * 1) ++ xs.drop ((k + 1) * 1), u.oneCell' = true := fun u hu => by
    rcases List.mem_append.1 hu with hu | hu
    · exact h1 u (List.mem_of_mem_take hu)
    · exact h1 u (List.mem_of_mem_drop hu)
  have hr2 := Rw.of_own o2 hone
  obtain ⟨y, c, rfl, _, _⟩ := hr2.form
  have m1 : Mods (fun _ => False) w w1 := (Mods.of_grown g1).mono (fun b hb => by simp [Value.ownBlock] at hb)
  refine ⟨v1, w1, y, c, w2, r1, m1, m1.trans (Mods.of_grown g2) (fun j hj => .inr (o1.lt j hj).1), r2, hr2, fun j hj => (o2.lt j hj).1⟩
set_option maxRecDepth 100000 in
set_option maxHeartbeats 2000000 in
theorem refDrop {w : World} {g N n : Nat} {v : Value} {xs : List Value} (h : RG 31 3 1 w g N v n xs) (k : Nat) (hk : k < n) (hn : n ≤ 65536) : Calls Try.prog 61 #[.pointer (some ⟨g, 0, none⟩), .int .i64 k] w (DropP 31 3 1 w g N v (n - 1) (xs.take (k * 1) ++ xs.drop ((k + 1) * 1))) := by
  obtain ⟨x, cap, rfl, hc1, hc2⟩ := h.2.form
  obtain ⟨b, o, rfl⟩ : ∃ b o, x = some ⟨b, o, none⟩ := by
    rcases h.2.2.2 with ⟨_, h2⟩ | ⟨b, o, _, _, h2, _⟩
    · omega
    · simp only [Value.slice.injEq] at h2; exact ⟨b, o, h2.1⟩
  obtain ⟨v1, w1, y, c, w2, r1, m1, m2, r2, hr2, hown⟩ := refDrop_runs h.2 hk hn
  have ha : Anew w (.slice (some ⟨b, o, none⟩) n cap) (.slice y (n - 1) c) := fun j hj => .inr (hown j hj)
  obtain ⟨s1, s2, s3, s4⟩ := h.store (m2.mono (fun _ hb => hb.elim)) hr2 (by decide) ha
  have c1 := h.c1
  have c1' : w1.cell? ⟨g, 1, none⟩ = some (.slice (some ⟨b, o, none⟩) n cap) := (World.cell?_of_block (m1.block g h.lt id)).trans h.c1
  have t1 := fun W => run_head und29 sz29 b o n cap k (by omega) (by omega) k rfl W
  have t2 := fun W => run_tail und29 sz29 (some ⟨b, o, none⟩) n cap (k + 1) (by omega) ((k : Int) + 1) (by simp) W
  obtain ⟨Y, hY⟩ : ∃ Y, Y = Value.slice (if cap = k + 1 then some ⟨b, o, none⟩ else (some (⟨b, o, none⟩ : Addr)).map (·.add ((k + 1) * 1))) (n - (k + 1)) (cap - (k + 1)) := ⟨_, rfl⟩
  rw [← hY] at t2 r2
  have R1 := Lib.hid r1
  have R2 := Lib.hid r2
  have S3 := Lib.hid s3
  have S4 := Lib.hid s4
  have HA := Lib.hid ha
  have h3 : ¬ n ≤ k := by omega
  unfold maxLen at hc2
  have hkc : (k : Int) + 1 ≤ cap := by omega
  clear h hr2 hown m1 m2 r1 r2 s3 s4 ha hY
  go_enter Try.func61, Try.ntmps61
  go_wp2_with (first | (at_builtin; refine wpList_appK 29 rfl (.tmp 17) (.tmp 23) rfl rfl rfl rfl R1.out ?_) | (at_builtin; refine wpList_appK 29 rfl (.tmp 26) (.tmp 33) rfl rfl rfl rfl R2.out ?_))
  go_ret
  exact ⟨_, rfl, S3.out, S4.out, HA.out⟩
set_option maxHeartbeats 400000 in
theorem refDrop_no {w : World} {g N n : Nat} {v : Value} {xs : List Value} (h : RG 31 3 1 w g N v n xs) (i : Int) (hi : ¬ (0 ≤ i ∧ i < n)) : Calls Try.prog 61 #[.pointer (some ⟨g, 0, none⟩), .int .i64 i] w fun e w' => e = .returned (.bool false) ∧ w = w' := by
  obtain ⟨y, c, rfl, hc1, hc2⟩ := h.2.form
  have c1 := h.c1
  clear h
  by_cases h0 : i < 0
  · clear hi
    go_enter Try.func61, Try.ntmps61
    go_wp2_with fail
    go_ret
    exact ⟨rfl, rfl⟩
  · have h2 : (n : Int) ≤ i := by omega
    clear hi
    go_enter Try.func61, Try.ntmps61
    go_wp2_with fail
    go_ret
    exact ⟨rfl, rfl⟩
set_option maxRecDepth 100000 in
theorem refPop_no {w : World} {g N : Nat} {v : Value} {xs : List Value} (h : RG 31 3 1 w g N v 0 xs) : Calls Try.prog 59 #[.pointer (some ⟨g, 0, none⟩)] w fun e w' => e = .returned (.tuple #[.int .i64 0, .bool false]) ∧ w = w' := by
  have H := Lib.hid h
  clear h
  go_enter Try.func59, Try.ntmps59
  go_wp2_with fail
  refine (refAt_no H.out 0 (by omega)).mono ?_
  rintro e w' ⟨rfl, rfl⟩
  go_wp2_with fail
  refine (refDrop_no H.out 0 (by omega)).mono ?_
  rintro e w' ⟨rfl, rfl⟩
  go_wp2_with fail
  go_ret2
  exact ⟨rfl, rfl⟩
set_option maxRecDepth 100000 in
theorem refPop {w : World} {g N n : Nat} {v : Value} {xs : List Value} (h : RG 31 3 1 w g N v n xs) (x : Int) (hx : xs[0]? = some (.int .i64 x)) (hn : n ≤ 65536) : Calls Try.prog 59 #[.pointer (some ⟨g, 0, none⟩)] w (PopP 31 3 1 w g N v (n - 1) (.int .i64 x) (xs.drop (1 * 1))) := by
  have hn0 : 0 < n := by have h1 := (List.getElem?_eq_some_iff.1 hx).1; have := h.2.1; omega
  have H := Lib.hid h
  have HX := Lib.hid hx
  clear h hx
  go_enter Try.func59, Try.ntmps59
  go_wp2_with fail
  refine (refAt H.out 0 x HX.out).mono ?_
  rintro e w' ⟨rfl, rfl⟩
  go_wp2_with fail
  refine (refDrop H.out 0 hn0 hn).mono ?_
  rintro e w2 ⟨v2, rfl, hr, hm, ha⟩
  have HR := Lib.hid hr
  have HM := Lib.hid hm
  have HA := Lib.hid ha
  clear hr hm ha
  go_wp2_with fail
  go_ret2
  exact ⟨v2, rfl, by simpa using HR.out, HM.out, HA.out⟩
set_option maxRecDepth 100000 in
set_option maxHeartbeats 1000000 in
theorem refFind {w : World} {g N n : Nat} {v : Value} {xs : List Int} (h : RG 31 3 1 w g N v n (xs.map (Value.int .i64))) (hn : n ≤ 65536) (y : Int) :
    Calls Try.prog 63 #[.pointer (some ⟨g, 0, none⟩), .int .i64 y] w fun e w' => e = .returned (.int .i64 (fst (fun x => decide (y < x)) xs)) ∧ w = w' := by
  have hl : xs.length = n := by have := h.2.1; simp at this; exact this
  have H := Lib.hid h
  have c1 := h.c1
  obtain ⟨x, cp, rfl, hc1, hc2⟩ := h.2.form
  unfold maxLen at hc2
  clear h
  go_enter Try.func63, Try.ntmps63
  go_wp2_with fail
  go_loop [5] (fun i => ∃ k : Nat, k ≤ n ∧ i = .int .i64 k ∧ ∀ j z, j < k → xs[j]? = some z → decide (y < z) = false) (fun i => n - (intOf i).toNat)
  case atStart => exact ⟨0, by omega, rfl, fun j y hj => by omega⟩
  case round =>
    obtain ⟨k, hk, rfl, hb⟩ := hrel
    have HB := Lib.hid hb
    clear hb
    by_cases hlt : k < n
    · have hxk : xs[k]? = some (xs[k]'(by omega)) := List.getElem?_eq_getElem (by omega)
      generalize xs[k]'(by omega) = z at hxk
      obtain ⟨b, o, rfl, hcell, _⟩ := H.out.2.cell (j := k) (u := .int .i64 z) (by simp [hxk])
      have HX := Lib.hid hxk
      clear hxk
      by_cases hz : y < z
      · go_wp2_with fail
        go_ret
        exact ⟨by rw [fst_at _ xs k z HX.out (by simpa using hz) HB.out]; rfl, rfl⟩
      · go_wp2_with fail
        go_round
        case rel =>
          refine ⟨k + 1, by omega, by go_num, fun j y' hj hy => ?_⟩
          by_cases hjk : j = k
          · subst hjk
            rw [HX.out] at hy
            obtain rfl := Option.some.inj hy
            simpa using hz
          · exact HB.out j y' (by omega) hy
        case measure => simp [intOf]; omega
    · go_wp2_with fail
      go_ret
      exact ⟨by rw [fst_no _ xs (fun j y hj hy => HB.out j y (by omega) hy)]; rfl, rfl⟩
end Go.Proofs.Ytfdihgahegfamaa
