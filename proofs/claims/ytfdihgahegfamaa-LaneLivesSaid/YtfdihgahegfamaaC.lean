/-
  Contracts of package ring at int: At, Pop. Condition: the ring lies in memory as a size and a row.
-/
import Derived.Test.YtfdihgahegfamaaD
namespace Go.Proofs.Ytfdihgahegfamaa
open Go.RowKit
set_option maxHeartbeats 400000 in
theorem atI_no {w : World} {g N n : Nat} {v : Value} {xs : List Value} (h : RG 97 3 1 w g N v n xs) (i : Int) (hi : ¬ (0 ≤ i ∧ i < n)) : Calls Try.prog 31 #[.pointer (some ⟨g, 0, none⟩), .int .i64 i] w fun e w' => e = .returned (.tuple #[.int .i64 0, .bool false]) ∧ Below w.heap.size w w' := by
  have H := Lib.hid h
  have hd : decide (0 ≤ i ∧ i < (n : Int)) = false := by simpa using hi
  have HD := Lib.hid hd
  clear h hi hd
  go_enter Try.func31, Try.ntmps31
  go_wp2_with (go_at_call 69; refine (hasI H.out i).mono ?_; rintro e w' ⟨rfl, rfl⟩; rw [HD.out])
  go_ret2
  exact ⟨rfl, (Below.refl _ _).alloc (Nat.le_refl _) _⟩
set_option maxHeartbeats 400000 in
theorem atI {w : World} {g N n : Nat} {v : Value} {xs : List Value} (h : RG 97 3 1 w g N v n xs) (k : Nat) (x : Int) (hk : xs[k]? = some (.int .i64 x)) : Calls Try.prog 31 #[.pointer (some ⟨g, 0, none⟩), .int .i64 k] w fun e w' => e = .returned (.tuple #[.int .i64 x, .bool true]) ∧ w = w' := by
  have H := Lib.hid h
  have hkn : k < n := by have h1 := (List.getElem?_eq_some_iff.1 hk).1; have := h.2.1; omega
  have hd : decide (0 ≤ (k : Int) ∧ (k : Int) < (n : Int)) = true := by simp; omega
  have HD := Lib.hid hd
  have c1 := h.c1
  obtain ⟨y, c, rfl, hc1, hc2⟩ := h.2.form
  obtain ⟨b, o, rfl, h1, h2⟩ := h.2.cell hk
  unfold maxLen at hc2
  clear h hd hk
  go_enter Try.func31, Try.ntmps31
  go_wp2_with (go_at_call 69; refine (hasI H.out k).mono ?_; rintro e w' ⟨rfl, rfl⟩; rw [HD.out])
  go_ret2
  exact ⟨rfl, rfl⟩
/-- A ring without its first thing. -/
def PopP (T e sz : Nat) (w : World) (g N : Nat) (v : Value) (n : Nat) (x : Value) (ys : List Value) (en : Ending) (w' : World) : Prop :=
  ∃ v', en = .returned (.tuple #[x, .bool true]) ∧ RG T e sz w' g N v' n ys ∧ Mods (Ft g v) w w' ∧ Anew w v v'
/-- A ring without the thing at a place. -/
def DropP (T e sz : Nat) (w : World) (g N : Nat) (v : Value) (n : Nat) (ys : List Value) (en : Ending) (w' : World) : Prop :=
  ∃ v', en = .returned (.bool true) ∧ RG T e sz w' g N v' n ys ∧ Mods (Ft g v) w w' ∧ Anew w v v'
set_option maxHeartbeats 400000 in
theorem popI_no {w : World} {g N : Nat} {v : Value} {xs : List Value} (h : RG 97 3 1 w g N v 0 xs) : Calls Try.prog 27 #[.pointer (some ⟨g, 0, none⟩)] w fun e w' => e = .returned (.tuple #[.int .i64 0, .bool false]) ∧ Below w.heap.size w w' := by
  have H := Lib.hid h
  clear h
  go_enter Try.func27, Try.ntmps27
  go_wp2_with (go_at_call 31; refine (atI_no H.out 0 (by omega)).mono ?_; rintro e w' ⟨rfl, hb⟩; have HB := Lib.hid hb; clear hb)
  go_ret2
  exact ⟨rfl, HB.out⟩
/-- What a pop does to memory: the first thing is cleared, the row begins behind it. -/
theorem pop_runs {P : Program} {t e sz : Nat} {z : Value} (ht : P.underlying t = some (.slice e)) (hv : ∀ w, (zeroValue e).run P w = .ok z w) (hz : z.cells.size = sz) (h1z : ∀ c ∈ z.cells.toList, c.oneCell' = true)
    {w : World} {b o n cap : Nat} {xs : List Value} (h : Rw w e sz (.slice (some ⟨b, o, none⟩) n cap) n xs) (hn : 0 < n) :
    ∃ w2, (∀ ty, (Builtin.clear_ #[t] ty #[.slice (some ⟨b, o, none⟩) 1 cap]).run P w = .ok (.tuple #[]) w2) ∧ Mods (fun j => j = b) w w2 ∧
      Rw w2 e sz (.slice (if cap = 1 then some ⟨b, o, none⟩ else (some (⟨b, o, none⟩ : Addr)).map (·.add (1 * sz))) (n - 1) (cap - 1)) (n - 1) (xs.drop (1 * sz)) ∧
      (Value.slice (if cap = 1 then some ⟨b, o, none⟩ else (some (⟨b, o, none⟩ : Addr)).map (·.add (1 * sz))) (n - 1) (cap - 1)).ownBlock = some b := by
  obtain ⟨hc1, hc2⟩ := h.cut (k := 1) (by omega)
  obtain ⟨hl, h1, ⟨h2, _⟩ | ⟨b', o', cap', cs, h2, hg, h3, h4, h5, h6⟩⟩ := h
  · simp at h2
  simp only [Value.slice.injEq, Option.some.injEq, Addr.mk.injEq] at h2
  obtain ⟨⟨rfl, rfl, _⟩, _, rfl⟩ := h2
  have e4 : 1 * sz ≤ cap * sz := Nat.mul_le_mul_right _ (by omega)
  obtain ⟨z1, z2⟩ := zeroCells_one z h1z 1
  have hcl := fun ty => run_clear (P := P) (sz := sz) ht z hv hz h1z b o 1 cap ty (by omega) w
    (fun j hj => by rw [cell_of_row _ _ _ _ _ _ hg, Array.getElem?_eq_getElem (by omega)]; rfl) (fun j => by simp [World.frozen?, hg])
  refine ⟨_, hcl, Mods.sets (S := fun j => j = b) b rfl _ _ _, ?_, hc2⟩
  by_cases hcap : cap = 1
  · rw [if_pos hcap] at hc1 ⊢
    obtain rfl : n = 1 := by omega
    exact hc1.sets rfl (.inr (by simp))
  · rw [if_neg hcap] at hc1 ⊢
    exact hc1.sets (by rw [Option.map_some, addr_add]) (.inl (by rw [z2, hz]; omega))
set_option maxHeartbeats 400000 in
set_option maxRecDepth 100000 in
theorem popI {w : World} {g N n : Nat} {v : Value} {xs : List Value} (h : RG 97 3 1 w g N v n xs) (x : Int) (hx : xs[0]? = some (.int .i64 x)) : Calls Try.prog 27 #[.pointer (some ⟨g, 0, none⟩)] w (PopP 97 3 1 w g N v (n - 1) (.int .i64 x) (xs.drop (1 * 1))) := by
  have hn : 0 < n := by have h1 := (List.getElem?_eq_some_iff.1 hx).1; have := h.2.1; omega
  have AT := Lib.hid (atI h 0 x hx)
  obtain ⟨y, cap, rfl, hc1, hc2⟩ := h.2.form
  obtain ⟨b, o, rfl, _, _⟩ := h.2.cell hx
  obtain ⟨w2, r1, r2, r3, r4⟩ := pop_runs (sz := 1) Try.underlying29 zero3 rfl (by simp [Value.cells, Value.oneCell']) h.2 hn
  have hm : Mods (fun k => (Value.slice (some ⟨b, o, none⟩) n cap).ownBlock = some k) w w2 := r2.mono (fun j hj => .inl (by simp [Value.ownBlock]; exact hj.symm))
  obtain ⟨s1, s2, s3, s4⟩ := h.store hm r3 (by decide) (fun k hk => .inl (by rw [r4] at hk; exact hk))
  have ha : Anew w (.slice (some ⟨b, o, none⟩) n cap) (.slice (if cap = 1 then some ⟨b, o, none⟩ else (some (⟨b, o, none⟩ : Addr)).map (·.add (1 * 1))) (n - 1) (cap - 1)) := fun k hk => .inl (by rw [r4] at hk; exact hk)
  have t1 := fun W => run_head und29 sz29 b o n cap 1 (by omega) (by omega) 1 rfl W
  have t2 := fun W => run_tail und29 sz29 (some ⟨b, o, none⟩) n cap 1 (by omega) 1 (by simp) W
  obtain ⟨Y, hY⟩ : ∃ Y, Y = (if cap = 1 then some ⟨b, o, none⟩ else (some (⟨b, o, none⟩ : Addr)).map (·.add (1 * 1))) := ⟨_, rfl⟩
  rw [← hY] at t2 s3 s4 ha
  have c1 := h.c1
  have H3 := Lib.hid s3
  have H4 := Lib.hid s4
  have HA := Lib.hid ha
  unfold maxLen at hc2
  clear h hx hm r2 r3 r4 s3 s4 ha hY
  go_enter Try.func27, Try.ntmps27
  go_wp2_with (go_at_call 31; refine AT.out.mono ?_; rintro e w' ⟨rfl, rfl⟩)
  go_ret2
  exact ⟨_, rfl, H3.out, H4.out, HA.out⟩
end Go.Proofs.Ytfdihgahegfamaa
