/-
  Contracts of package ring at int: New, Len, Size, has, At, Push. Condition: the ring lies in memory as a size and a row.
-/
import Derived.Test.YtfdihgahegfamaaA
import Derived.StillTailTactics
import Derived.Deep.QuietTactic
import Derived.BigQuiet
import Derived.Deep.RegionLaw
namespace Go.Proofs.Ytfdihgahegfamaa
open Go.RowKit
/-- A ring: its size, and its row. -/
def RG (T e sz : Nat) (w : World) (g N : Nat) (v : Value) (n : Nat) (xs : List Value) : Prop :=
  w.heap[g]? = some (.cells #[.int .i64 N, v] T (0, 0)) ∧ Rw w e sz v n xs
section
variable {T e sz : Nat} {w : World} {g N n : Nat} {v : Value} {xs : List Value}
theorem RG.c0 (h : RG T e sz w g N v n xs) : w.cell? ⟨g, 0, none⟩ = some (.int .i64 N) := by rw [cell_of_row _ _ _ _ _ _ h.1]; rfl
theorem RG.c1 (h : RG T e sz w g N v n xs) : w.cell? ⟨g, 1, none⟩ = some v := by rw [cell_of_row _ _ _ _ _ _ h.1]; rfl
theorem RG.f (h : RG T e sz w g N v n xs) (i : Nat) : w.frozen? ⟨g, i, none⟩ = false := by simp [World.frozen?, h.1]
theorem RG.lt (h : RG T e sz w g N v n xs) : g < w.heap.size := (Array.getElem?_eq_some_iff.1 h.1).1
end
theorem ret_tup {a b : Value} {c d : Value} (h : a = c) (k : b = d) : Ending.returned (.tuple #[a, b]) = .returned (.tuple #[c, d]) := by rw [h, k]
theorem newI (n : Nat) (h1 : 1 ≤ n) (h2 : n ≤ 65536) (w : World) :
    Calls Try.prog 13 #[.int .i64 n] w fun e w' => e = .returned (.tuple #[.pointer (some ⟨w.heap.size, 0, none⟩), .int .i64 0]) ∧ w' = w.alloc (.cells #[.int .i64 n, .slice none 0 0] 97) := by
  go_enter Try.func13, Try.ntmps13
  go_wp2
  go_ret2
  exact ⟨rfl, rfl⟩
theorem newI_no (n : Int) (h : n < 1 ∨ 65536 < n) (w : World) :
    Calls Try.prog 13 #[.int .i64 n] w fun e w' => e = .returned (.tuple #[.pointer none, .int .i64 1]) ∧ w = w' := by
  rcases h with h | h
  · go_enter Try.func13, Try.ntmps13
    go_wp2
    go_ret2
    exact ⟨rfl, rfl⟩
  · have h' : ¬ n < 1 := by omega
    go_enter Try.func13, Try.ntmps13
    go_wp2
    go_ret2
    exact ⟨rfl, rfl⟩
theorem lenI_nil (w : World) : Calls Try.prog 15 #[.pointer none] w fun e w' => e = .returned (.int .i64 0) ∧ w = w' := by
  go_enter Try.func15, Try.ntmps15
  go_wp2
  go_ret
  exact ⟨rfl, rfl⟩
theorem sizeI_nil (w : World) : Calls Try.prog 16 #[.pointer none] w fun e w' => e = .returned (.int .i64 0) ∧ w = w' := by
  go_enter Try.func16, Try.ntmps16
  go_wp2
  go_ret
  exact ⟨rfl, rfl⟩
theorem lenI {w : World} {g N n : Nat} {v : Value} {xs : List Value} (h : RG 97 3 1 w g N v n xs) : Calls Try.prog 15 #[.pointer (some ⟨g, 0, none⟩)] w fun e w' => e = .returned (.int .i64 n) ∧ w = w' := by
  obtain ⟨x, c, rfl, _, _⟩ := h.2.form
  have c1 := h.c1
  clear h
  go_enter Try.func15, Try.ntmps15
  go_wp2
  go_ret
  exact ⟨rfl, rfl⟩
theorem sizeI {w : World} {g N n : Nat} {v : Value} {xs : List Value} (h : RG 97 3 1 w g N v n xs) : Calls Try.prog 16 #[.pointer (some ⟨g, 0, none⟩)] w fun e w' => e = .returned (.int .i64 N) ∧ w = w' := by
  have c0 := h.c0
  clear h
  go_enter Try.func16, Try.ntmps16
  go_wp2
  go_ret
  exact ⟨rfl, rfl⟩
theorem hasI {w : World} {g N n : Nat} {v : Value} {xs : List Value} (h : RG 97 3 1 w g N v n xs) (i : Int) : Calls Try.prog 69 #[.pointer (some ⟨g, 0, none⟩), .int .i64 i] w fun e w' => e = .returned (.bool (decide (0 ≤ i ∧ i < n))) ∧ w = w' := by
  have H := Lib.hid h
  clear h
  by_cases h0 : 0 ≤ i
  · go_enter Try.func69, Try.ntmps69
    go_wp2_with (go_at_call 15; refine (lenI H.out).mono ?_; rintro e w' ⟨rfl, rfl⟩)
    go_ret
    exact ⟨by simp [h0], rfl⟩
  · have h1 : i < 0 := by omega
    go_enter Try.func69, Try.ntmps69
    go_wp2_with fail
    go_ret
    exact ⟨by simp; omega, rfl⟩
set_option maxHeartbeats 400000 in
theorem pushI_no {w : World} {g N n : Nat} {v : Value} {xs : List Value} (h : RG 97 3 1 w g N v n xs) (hn : N ≤ n) (x : Value) : Calls Try.prog 26 #[.pointer (some ⟨g, 0, none⟩), x] w fun e w' => e = .returned (.bool false) ∧ w = w' := by
  have H := Lib.hid h
  clear h
  go_enter Try.func26, Try.ntmps26
  go_wp2_with (first | (go_at_call 15; refine (lenI H.out).mono ?_; rintro e w' ⟨rfl, rfl⟩) | (go_at_call 16; refine (sizeI H.out).mono ?_; rintro e w' ⟨rfl, rfl⟩))
  go_ret
  exact ⟨rfl, rfl⟩
/-- The new row lies where the old one did, or in new memory. -/
def Anew (w : World) (v v' : Value) : Prop := ∀ k, v'.ownBlock = some k → v.ownBlock = some k ∨ w.heap.size ≤ k
/-- What a change of a ring may turn. -/
def Ft (g : Nat) (v : Value) : Nat → Prop := fun k => k = g ∨ v.ownBlock = some k
theorem wpList_appK (T : TypeId) {ops : Array Oper} {rest : List Oper} {o : Oper} {a : Act} {w : World} {Q : Exit → Act → World → Prop} (hgd : o.guard = none) (s x : Operand)
    (ho : o.op = .call { callee := .builtin .append, args := #[s, x], argTypes := #[T, T] }) (hty : o.type = T) {v u v' : Value} {w' : World} (hs : a.eval s = v) (hx : a.eval x = u)
    (hr : (Builtin.append_ #[T, T] T #[v, u]).run Try.prog w = .ok v' w') (h : wpList Try.prog ops Q rest (a.put o.dst v') w') : wpList Try.prog ops Q (o :: rest) a w := by
  refine wpList_plain hgd fun K hK => ?_
  unfold Oper.wp execOp
  simp only [ho, hty, resolve, invoke, builtin, Sem.run_bind, Sem.run_pure, Result.andThen_ok, List.map_toArray, List.map_cons, List.map_nil, hs, hx, hr]
  exact hK _ _ h
section
variable {T e sz : Nat} {w w1 : World} {g N n m : Nat} {v v' : Value} {xs ys : List Value}
/-- The ring with another row. -/
theorem RG.store (h : RG T e sz w g N v n xs) (hm : Mods (fun k => v.ownBlock = some k) w w1) (hr : Rw w1 e sz v' m ys) (hne : e ≠ T) (ha : Anew w v v') :
    w1.cell? ⟨g, 1, none⟩ = some v ∧ w1.frozen? ⟨g, 1, none⟩ = false ∧ RG T e sz (w1.setCell ⟨g, 1, none⟩ v') g N v' m ys ∧ Mods (Ft g v) w (w1.setCell ⟨g, 1, none⟩ v') := by
  have hg := h.2.ty h.1 hne
  have hg1 : w1.heap[g]? = some (.cells #[.int .i64 N, v] T (0, 0)) := (hm.block g h.lt hg).trans h.1
  refine ⟨by rw [cell_of_row _ _ _ _ _ _ hg1]; rfl, by simp [World.frozen?, hg1], ⟨?_, ?_⟩, ?_⟩
  · simp [World.setCell, Array.getElem?_modify, hg1]
  · refine hr.mods (Mods.set (S := fun k => k = g) w1 ⟨g, 1, none⟩ v' rfl) (fun k hk e => ?_)
    subst e
    rcases ha _ hk with h1 | h1
    · exact hg h1
    · have := h.lt; omega
  · exact (hm.mono (T := Ft g v) (fun b hb => .inl (.inr hb))).trans (Mods.set (S := fun k => k = g) w1 ⟨g, 1, none⟩ v' rfl) (fun b hb => .inl (.inl hb))
end
theorem info3 : (Try.prog.info? 3).map (fun i => (i.zero, i.size, i.bytes)) = some (some (.int .i64 0), 1, 8) := by kernel_rfl
/-- A ring behind a push. -/
def PushP (T e sz : Nat) (w : World) (g N : Nat) (v : Value) (n : Nat) (ys : List Value) (en : Ending) (w' : World) : Prop :=
  ∃ v', en = .returned (.bool true) ∧ RG T e sz w' g N v' n ys ∧ Mods (Ft g v) w w' ∧ Anew w v v'
set_option maxHeartbeats 400000 in
set_option maxRecDepth 100000 in
theorem pushI {w : World} {g N n : Nat} {v : Value} {xs : List Value} (h : RG 97 3 1 w g N v n xs) (hn : n < N) (hN : N ≤ 65536) (x : Int) : Calls Try.prog 26 #[.pointer (some ⟨g, 0, none⟩), .int .i64 x] w (PushP 97 3 1 w g N v (n + 1) (xs ++ [.int .i64 x])) := by
  obtain ⟨i, hi, hz0, hz1, hz2⟩ := info_parts info3
  have hnew := heap_alloc_new w (.cells #[.int .i64 x] 3)
  have hr0 : Rw (w.alloc (.cells #[.int .i64 x] 3)) 3 1 v n xs := h.2.mods (S := fun _ => False) (Mods.alloc _ _) (fun _ _ => id)
  obtain ⟨v', w1, hrun, r1, r2, r3⟩ := hr0.push Try.underlying29 hi hz0 hz1 hz2 rfl (by decide) ⟨w.heap.size, 0, none⟩ 1 1 [.int .i64 x] rfl
    (fun j u hj => by rw [addr_add, cell_of_row _ _ _ _ _ _ hnew]; rcases j with _ | j <;> simp at hj ⊢; exact hj) (by simp [Value.oneCell']) (by unfold maxLen; omega) (by omega) (by omega)
  have ha : Anew w v v' := fun k hk => by
    rcases r3 with r3 | ⟨k', h1, h2⟩
    · rw [r3] at hk; exact .inl hk
    · rw [h1] at hk
      obtain rfl := Option.some.inj hk
      simp at h2
      exact .inr (by omega)
  have hm : Mods (fun k => v.ownBlock = some k) w w1 := (Mods.alloc w _).trans r2 (fun b hb => .inl hb)
  obtain ⟨s1, s2, s3, s4⟩ := h.store hm r1 (by decide) ha
  obtain ⟨x', c', rfl, _, _⟩ := r1.form
  have HR := Lib.hid hrun
  have H3 := Lib.hid s3
  have H4 := Lib.hid s4
  have HA := Lib.hid ha
  have H := Lib.hid h
  have c1 := h.c1
  clear hrun s3 s4 ha r1 r2 r3 hm hr0 hnew h hi hz0 hz1 hz2
  go_enter Try.func26, Try.ntmps26
  go_wp2_with (first | (go_at_call 15; refine (lenI H.out).mono ?_; rintro e w' ⟨rfl, rfl⟩) | (go_at_call 16; refine (sizeI H.out).mono ?_; rintro e w' ⟨rfl, rfl⟩) | (at_builtin; refine wpList_appK 29 rfl (.tmp 14) (.tmp 16) rfl rfl rfl rfl HR.out ?_))
  go_ret
  exact ⟨_, rfl, H3.out, H4.out, HA.out⟩
end Go.Proofs.Ytfdihgahegfamaa
