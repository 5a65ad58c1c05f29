/-
  Contracts of package ring at string. Condition: the ring lies in memory as a size and a row.
-/
import Derived.Test.YtfdihgahegfamaaC
namespace Go.Proofs.Ytfdihgahegfamaa
open Go.RowKit
theorem newS (n : Nat) (h1 : 1 ≤ n) (h2 : n ≤ 65536) (w : World) :
    Calls Try.prog 56 #[.int .i64 n] w fun e w' => e = .returned (.tuple #[.pointer (some ⟨w.heap.size, 0, none⟩), .int .i64 0]) ∧ w' = w.alloc (.cells #[.int .i64 n, .slice none 0 0] 40) := by
  go_enter Try.func56, Try.ntmps56
  go_wp2
  go_ret2
  exact ⟨rfl, rfl⟩
theorem lenS_nil (w : World) : Calls Try.prog 21 #[.pointer none] w fun e w' => e = .returned (.int .i64 0) ∧ w = w' := by
  go_enter Try.func21, Try.ntmps21
  go_wp2
  go_ret
  exact ⟨rfl, rfl⟩
theorem sizeS_nil (w : World) : Calls Try.prog 22 #[.pointer none] w fun e w' => e = .returned (.int .i64 0) ∧ w = w' := by
  go_enter Try.func22, Try.ntmps22
  go_wp2
  go_ret
  exact ⟨rfl, rfl⟩
theorem lenS {w : World} {g N n : Nat} {v : Value} {xs : List Value} (h : RG 40 9 1 w g N v n xs) : Calls Try.prog 21 #[.pointer (some ⟨g, 0, none⟩)] w fun e w' => e = .returned (.int .i64 n) ∧ w = w' := by
  obtain ⟨x, c, rfl, _, _⟩ := h.2.form
  have c1 := h.c1
  clear h
  go_enter Try.func21, Try.ntmps21
  go_wp2
  go_ret
  exact ⟨rfl, rfl⟩
theorem sizeS {w : World} {g N n : Nat} {v : Value} {xs : List Value} (h : RG 40 9 1 w g N v n xs) : Calls Try.prog 22 #[.pointer (some ⟨g, 0, none⟩)] w fun e w' => e = .returned (.int .i64 N) ∧ w = w' := by
  have c0 := h.c0
  clear h
  go_enter Try.func22, Try.ntmps22
  go_wp2
  go_ret
  exact ⟨rfl, rfl⟩
theorem hasS {w : World} {g N n : Nat} {v : Value} {xs : List Value} (h : RG 40 9 1 w g N v n xs) (i : Int) : Calls Try.prog 64 #[.pointer (some ⟨g, 0, none⟩), .int .i64 i] w fun e w' => e = .returned (.bool (decide (0 ≤ i ∧ i < n))) ∧ w = w' := by
  have H := Lib.hid h
  clear h
  by_cases h0 : 0 ≤ i
  · go_enter Try.func64, Try.ntmps64
    go_wp2_with (go_at_call 21; refine (lenS H.out).mono ?_; rintro e w' ⟨rfl, rfl⟩)
    go_ret
    exact ⟨by simp [h0], rfl⟩
  · have h1 : i < 0 := by omega
    go_enter Try.func64, Try.ntmps64
    go_wp2_with fail
    go_ret
    exact ⟨by simp; omega, rfl⟩
set_option maxHeartbeats 400000 in
theorem pushS_no {w : World} {g N n : Nat} {v : Value} {xs : List Value} (h : RG 40 9 1 w g N v n xs) (hn : N ≤ n) (x : Value) : Calls Try.prog 19 #[.pointer (some ⟨g, 0, none⟩), x] w fun e w' => e = .returned (.bool false) ∧ w = w' := by
  have H := Lib.hid h
  clear h
  go_enter Try.func19, Try.ntmps19
  go_wp2_with (first | (go_at_call 21; refine (lenS H.out).mono ?_; rintro e w' ⟨rfl, rfl⟩) | (go_at_call 22; refine (sizeS H.out).mono ?_; rintro e w' ⟨rfl, rfl⟩))
  go_ret
  exact ⟨rfl, rfl⟩
theorem info9 : (Try.prog.info? 9).map (fun i => (i.zero, i.size, i.bytes)) = some (some (.string ⟨#[]⟩), 1, 16) := by kernel_rfl
set_option maxHeartbeats 400000 in
set_option maxRecDepth 100000 in
theorem pushS {w : World} {g N n : Nat} {v : Value} {xs : List Value} (h : RG 40 9 1 w g N v n xs) (hn : n < N) (hN : N ≤ 65536) (x : ByteArray) : Calls Try.prog 19 #[.pointer (some ⟨g, 0, none⟩), .string x] w (PushP 40 9 1 w g N v (n + 1) (xs ++ [.string x])) := by
  obtain ⟨i, hi, hz0, hz1, hz2⟩ := info_parts info9
  have hnew := heap_alloc_new w (.cells #[.string x] 9)
  have hr0 : Rw (w.alloc (.cells #[.string x] 9)) 9 1 v n xs := h.2.mods (S := fun _ => False) (Mods.alloc _ _) (fun _ _ => id)
  obtain ⟨v', w1, hrun, r1, r2, r3⟩ := hr0.push Try.underlying38 hi hz0 hz1 hz2 rfl (by decide) ⟨w.heap.size, 0, none⟩ 1 1 [.string x] rfl
    (fun j u hj => by rw [addr_add, cell_of_row _ _ _ _ _ _ hnew]; rcases j with _ | j <;> simp at hj ⊢; exact hj) (by simp [Value.oneCell']) (by unfold maxLen; omega) (by omega) (by omega)
  have ha : Anew w v v' := fun k hk => by
    rcases r3 with r3 | ⟨k', h1, h2⟩
    · rw [r3] at hk; exact .inl hk
    · rw [h1] at hk
      obtain rfl := Option.some.inj hk
      simp at h2
      exact .inr (by omega)
  have hm : Mods (fun k => v.ownBlock = some k) w w1 := (Mods.alloc w _).trans r2 (fun b hb => .inl hb)
  obtain ⟨s1, s2, s3, s4⟩ := h.store hm r1 (by decide) ha
  obtain ⟨x', c', rfl, _, _⟩ := r1.form
  have HR := Lib.hid hrun
  have H3 := Lib.hid s3
  have H4 := Lib.hid s4
  have HA := Lib.hid ha
  have H := Lib.hid h
  have c1 := h.c1
  clear hrun s3 s4 ha r1 r2 r3 hm hr0 hnew h hi hz0 hz1 hz2
  go_enter Try.func19, Try.ntmps19
  go_wp2_with (first | (go_at_call 21; refine (lenS H.out).mono ?_; rintro e w' ⟨rfl, rfl⟩) | (go_at_call 22; refine (sizeS H.out).mono ?_; rintro e w' ⟨rfl, rfl⟩) | (at_builtin; refine wpList_appK 38 rfl (.tmp 14) (.tmp 16) rfl rfl rfl rfl HR.out ?_))
  go_ret
  exact ⟨_, rfl, H3.out, H4.out, HA.out⟩
theorem und38 : Try.prog.underlying 38 = some (.slice (Try.prog.elem 38)) := by kernel_rfl
theorem sz38 (W : World) : (sizeOf (Try.prog.elem 38)).run Try.prog W = .ok 1 W := by kernel_rfl
theorem zero9 (w : World) : (zeroValue 9).run Try.prog w = .ok (.string ⟨#[]⟩) w := by kernel_rfl
set_option maxHeartbeats 400000 in
theorem atS_no {w : World} {g N n : Nat} {v : Value} {xs : List Value} (h : RG 40 9 1 w g N v n xs) (i : Int) (hi : ¬ (0 ≤ i ∧ i < n)) : Calls Try.prog 18 #[.pointer (some ⟨g, 0, none⟩), .int .i64 i] w fun e w' => e = .returned (.tuple #[.string ⟨#[]⟩, .bool false]) ∧ Below w.heap.size w w' := by
  have H := Lib.hid h
  have hd : decide (0 ≤ i ∧ i < (n : Int)) = false := by simpa using hi
  have HD := Lib.hid hd
  clear h hi hd
  go_enter Try.func18, Try.ntmps18
  go_wp2_with (go_at_call 64; refine (hasS H.out i).mono ?_; rintro e w' ⟨rfl, rfl⟩; rw [HD.out])
  go_ret2
  exact ⟨rfl, (Below.refl _ _).alloc (Nat.le_refl _) _⟩
set_option maxHeartbeats 400000 in
theorem atS {w : World} {g N n : Nat} {v : Value} {xs : List Value} (h : RG 40 9 1 w g N v n xs) (k : Nat) (x : ByteArray) (hk : xs[k]? = some (.string x)) : Calls Try.prog 18 #[.pointer (some ⟨g, 0, none⟩), .int .i64 k] w fun e w' => e = .returned (.tuple #[.string x, .bool true]) ∧ w = w' := by
  have H := Lib.hid h
  have hkn : k < n := by have h1 := (List.getElem?_eq_some_iff.1 hk).1; have := h.2.1; omega
  have hd : decide (0 ≤ (k : Int) ∧ (k : Int) < (n : Int)) = true := by simp; omega
  have HD := Lib.hid hd
  have c1 := h.c1
  obtain ⟨y, c, rfl, hc1, hc2⟩ := h.2.form
  obtain ⟨b, o, rfl, h1, h2⟩ := h.2.cell hk
  unfold maxLen at hc2
  clear h hd hk
  go_enter Try.func18, Try.ntmps18
  go_wp2_with (go_at_call 64; refine (hasS H.out k).mono ?_; rintro e w' ⟨rfl, rfl⟩; rw [HD.out])
  go_ret2
  exact ⟨rfl, rfl⟩
set_option maxHeartbeats 400000 in
theorem popS_no {w : World} {g N : Nat} {v : Value} {xs : List Value} (h : RG 40 9 1 w g N v 0 xs) : Calls Try.prog 17 #[.pointer (some ⟨g, 0, none⟩)] w fun e w' => e = .returned (.tuple #[.string ⟨#[]⟩, .bool false]) ∧ Below w.heap.size w w' := by
  have H := Lib.hid h
  clear h
  go_enter Try.func17, Try.ntmps17
  go_wp2_with (go_at_call 18; refine (atS_no H.out 0 (by omega)).mono ?_; rintro e w' ⟨rfl, hb⟩; have HB := Lib.hid hb; clear hb)
  go_ret2
  exact ⟨rfl, HB.out⟩
set_option maxHeartbeats 400000 in
set_option maxRecDepth 100000 in
theorem popS {w : World} {g N n : Nat} {v : Value} {xs : List Value} (h : RG 40 9 1 w g N v n xs) (x : ByteArray) (hx : xs[0]? = some (.string x)) : Calls Try.prog 17 #[.pointer (some ⟨g, 0, none⟩)] w (PopP 40 9 1 w g N v (n - 1) (.string x) (xs.drop (1 * 1))) := by
  have hn : 0 < n := by have h1 := (List.getElem?_eq_some_iff.1 hx).1; have := h.2.1; omega
  have AT := Lib.hid (atS h 0 x hx)
  obtain ⟨y, cap, rfl, hc1, hc2⟩ := h.2.form
  obtain ⟨b, o, rfl, _, _⟩ := h.2.cell hx
  obtain ⟨w2, r1, r2, r3, r4⟩ := pop_runs (sz := 1) Try.underlying38 zero9 rfl (by simp [Value.cells, Value.oneCell']) h.2 hn
  have hm : Mods (fun k => (Value.slice (some ⟨b, o, none⟩) n cap).ownBlock = some k) w w2 := r2.mono (fun j hj => .inl (by simp [Value.ownBlock]; exact hj.symm))
  obtain ⟨s1, s2, s3, s4⟩ := h.store hm r3 (by decide) (fun k hk => .inl (by rw [r4] at hk; exact hk))
  have ha : Anew w (.slice (some ⟨b, o, none⟩) n cap) (.slice (if cap = 1 then some ⟨b, o, none⟩ else (some (⟨b, o, none⟩ : Addr)).map (·.add (1 * 1))) (n - 1) (cap - 1)) := fun k hk => .inl (by rw [r4] at hk; exact hk)
  have t1 := fun W => run_head und38 sz38 b o n cap 1 (by omega) (by omega) 1 rfl W
  have t2 := fun W => run_tail und38 sz38 (some ⟨b, o, none⟩) n cap 1 (by omega) 1 (by simp) W
  obtain ⟨Y, hY⟩ : ∃ Y, Y = (if cap = 1 then some ⟨b, o, none⟩ else (some (⟨b, o, none⟩ : Addr)).map (·.add (1 * 1))) := ⟨_, rfl⟩
  rw [← hY] at t2 s3 s4 ha
  have c1 := h.c1
  have H3 := Lib.hid s3
  have H4 := Lib.hid s4
  have HA := Lib.hid ha
  unfold maxLen at hc2
  clear h hx hm r2 r3 r4 s3 s4 ha hY
  go_enter Try.func17, Try.ntmps17
  go_wp2_with (go_at_call 18; refine AT.out.mono ?_; rintro e w' ⟨rfl, rfl⟩)
  go_ret2
  exact ⟨_, rfl, H3.out, H4.out, HA.out⟩
end Go.Proofs.Ytfdihgahegfamaa
