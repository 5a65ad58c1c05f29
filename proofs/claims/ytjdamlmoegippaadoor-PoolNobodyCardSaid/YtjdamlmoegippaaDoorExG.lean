/-
  A field of extents in memory: how often each is held, and what each tenant has; and what must hold of both. Condition: none.
-/
import Derived.Test.YtjdamlmoegippaaDoorExF
import Derived.Deep.MidRow
namespace Go.Proofs.YtjdamlmoegippaaDoor.ex
open Go.RowKit
/-- What a tenant may have, and has. -/
structure Acc where
  i : Bool
  r : Int
  q : Int
  c : Int
def a0 : Acc := ⟨false, 0, 0, 0⟩
/-- What is a tenant's, taken or not. -/
def Acc.sh (a : Acc) : Int := max a.r a.c
/-- Its cells. -/
def aC (a : Acc) : List Value := [.bool a.i, .int .i64 a.r, .int .i64 a.q, .int .i64 a.c]
/-- All tenants' cells. -/
def tC (T : Nat → Acc) : List Value := aC (T 0) ++ aC (T 1) ++ aC (T 2) ++ aC (T 3) ++ aC (T 4) ++ aC (T 5) ++ aC (T 6) ++ aC (T 7) ++ aC (T 8)
def updT (T : Nat → Acc) (t : Nat) (a : Acc) : Nat → Acc := fun k => if k = t then a else T k
theorem updT_self (T : Nat → Acc) (t : Nat) (a : Acc) : updT T t a t = a := if_pos rfl
theorem updT_ne (T : Nat → Acc) {t k : Nat} (a : Acc) (h : k ≠ t) : updT T t a k = T k := if_neg h
theorem of_nine {p : Nat → Prop} (h : p 0 ∧ p 1 ∧ p 2 ∧ p 3 ∧ p 4 ∧ p 5 ∧ p 6 ∧ p 7 ∧ p 8) (t : Nat) (ht : t < 9) : p t := by
  obtain ⟨h0, h1, h2, h3, h4, h5, h6, h7, h8⟩ := h
  match t, ht with
  | 0, _ => exact h0
  | 1, _ => exact h1
  | 2, _ => exact h2
  | 3, _ => exact h3
  | 4, _ => exact h4
  | 5, _ => exact h5
  | 6, _ => exact h6
  | 7, _ => exact h7
  | 8, _ => exact h8
theorem tC_at (T : Nat → Acc) (t : Nat) (ht : t < 9) : (tC T)[4 * t]? = some (.bool (T t).i) ∧ (tC T)[4 * t + 1]? = some (.int .i64 (T t).r) ∧ (tC T)[4 * t + 2]? = some (.int .i64 (T t).q) ∧ (tC T)[4 * t + 3]? = some (.int .i64 (T t).c) :=
  of_nine (p := fun t => (tC T)[4 * t]? = some (.bool (T t).i) ∧ (tC T)[4 * t + 1]? = some (.int .i64 (T t).r) ∧ (tC T)[4 * t + 2]? = some (.int .i64 (T t).q) ∧ (tC T)[4 * t + 3]? = some (.int .i64 (T t).c))
    ⟨⟨rfl, rfl, rfl, rfl⟩, ⟨rfl, rfl, rfl, rfl⟩, ⟨rfl, rfl, rfl, rfl⟩, ⟨rfl, rfl, rfl, rfl⟩, ⟨rfl, rfl, rfl, rfl⟩, ⟨rfl, rfl, rfl, rfl⟩, ⟨rfl, rfl, rfl, rfl⟩, ⟨rfl, rfl, rfl, rfl⟩, ⟨rfl, rfl, rfl, rfl⟩⟩ t ht
/-- A field's cells. -/
def fC (rb : Nat) (T : Nat → Acc) : List Value := .pointer (some ⟨rb, 0, none⟩) :: tC T
theorem tC_upd (T : Nat → Acc) (t : Nat) (ht : t < 9) (a : Acc) : (((((tC T).set (4 * t) (.bool a.i)).set (4 * t + 1) (.int .i64 a.r)).set (4 * t + 2) (.int .i64 a.q)).set (4 * t + 3) (.int .i64 a.c)) = tC (updT T t a) :=
  of_nine (p := fun t => (((((tC T).set (4 * t) (.bool a.i)).set (4 * t + 1) (.int .i64 a.r)).set (4 * t + 2) (.int .i64 a.q)).set (4 * t + 3) (.int .i64 a.c)) = tC (updT T t a))
    ⟨rfl, rfl, rfl, rfl, rfl, rfl, rfl, rfl, rfl⟩ t ht
theorem tC_updc (T : Nat → Acc) (t : Nat) (ht : t < 9) (c : Int) : (tC T).set (4 * t + 3) (.int .i64 c) = tC (updT T t ⟨(T t).i, (T t).r, (T t).q, c⟩) :=
  of_nine (p := fun t => (tC T).set (4 * t + 3) (.int .i64 c) = tC (updT T t ⟨(T t).i, (T t).r, (T t).q, c⟩))
    ⟨rfl, rfl, rfl, rfl, rfl, rfl, rfl, rfl, rfl⟩ t ht
/-- The sum of all tenants'. -/
def sum9 (h : Nat → Int) : Int := h 1 + h 2 + h 3 + h 4 + h 5 + h 6 + h 7 + h 8
theorem sum9_upd (h h' : Nat → Int) (t : Nat) (h1 : 1 ≤ t) (h8 : t ≤ 8) (he : ∀ k, k ≠ t → h' k = h k) : sum9 h' = sum9 h - h t + h' t := by
  unfold sum9
  have : t = 1 ∨ t = 2 ∨ t = 3 ∨ t = 4 ∨ t = 5 ∨ t = 6 ∨ t = 7 ∨ t = 8 := by omega
  rcases this with rfl | rfl | rfl | rfl | rfl | rfl | rfl | rfl
  · rw [he 2 (by omega), he 3 (by omega), he 4 (by omega), he 5 (by omega), he 6 (by omega), he 7 (by omega), he 8 (by omega)]; omega
  · rw [he 1 (by omega), he 3 (by omega), he 4 (by omega), he 5 (by omega), he 6 (by omega), he 7 (by omega), he 8 (by omega)]; omega
  · rw [he 1 (by omega), he 2 (by omega), he 4 (by omega), he 5 (by omega), he 6 (by omega), he 7 (by omega), he 8 (by omega)]; omega
  · rw [he 1 (by omega), he 2 (by omega), he 3 (by omega), he 5 (by omega), he 6 (by omega), he 7 (by omega), he 8 (by omega)]; omega
  · rw [he 1 (by omega), he 2 (by omega), he 3 (by omega), he 4 (by omega), he 6 (by omega), he 7 (by omega), he 8 (by omega)]; omega
  · rw [he 1 (by omega), he 2 (by omega), he 3 (by omega), he 4 (by omega), he 5 (by omega), he 7 (by omega), he 8 (by omega)]; omega
  · rw [he 1 (by omega), he 2 (by omega), he 3 (by omega), he 4 (by omega), he 5 (by omega), he 6 (by omega), he 8 (by omega)]; omega
  · rw [he 1 (by omega), he 2 (by omega), he 3 (by omega), he 4 (by omega), he 5 (by omega), he 6 (by omega), he 7 (by omega)]; omega
def slack (N : Nat) (T : Nat → Acc) : Int := (N : Int) - sum9 fun t => (T t).sh
/-- What holds of a field, whatever is asked of it. -/
structure Inv (N : Nat) (f : Nat → Nat) (T : Nat → Acc) : Prop where
  z : T 0 = a0
  out : ∀ t, (T t).i = false → T t = a0
  rq : ∀ t, 0 ≤ (T t).r ∧ (T t).r ≤ (T t).q ∧ (T t).q ≤ N
  cq : ∀ t, 0 ≤ (T t).c ∧ (T t).c ≤ (T t).q
  sum : sum9 (fun t => (T t).c) = cnt f N
  sl : 0 ≤ slack N T
/-- A field in memory. -/
structure FD (w : World) (g rb mb wb N : Nat) (f : Nat → Nat) (T : Nat → Acc) : Prop where
  blk : w.heap[g]? = some (.cells (fC rb T).toArray 84 (0, 0))
  row : BR w rb N mb wb f
  n2 : N ≤ 2048
  inv : Inv N f T
section
variable {w w' : World} {g rb mb wb N : Nat} {f : Nat → Nat} {T : Nat → Acc}
theorem FD.lt (h : FD w g rb mb wb N f T) : g < w.heap.size := (Array.getElem?_eq_some_iff.1 h.blk).1
theorem FD.n1 (h : FD w g rb mb wb N f T) : 1 ≤ N := h.row.n1
theorem FD.cell (h : FD w g rb mb wb N f T) (k : Nat) : w.cell? ⟨g, k, none⟩ = (fC rb T)[k]? := by rw [cell_of_row _ _ _ _ _ _ h.blk]; simp
theorem FD.c0 (h : FD w g rb mb wb N f T) : w.cell? ⟨g, 0, none⟩ = some (.pointer (some ⟨rb, 0, none⟩)) := by rw [h.cell]; rfl
theorem FD.at0 (h : FD w g rb mb wb N f T) (t : Nat) (ht : t < 9) : w.cell? ⟨g, 1 + t * 4, none⟩ = some (.bool (T t).i) := by
  rw [h.cell, show 1 + t * 4 = 4 * t + 1 by omega]; exact (tC_at T t ht).1
theorem FD.at1 (h : FD w g rb mb wb N f T) (t : Nat) (ht : t < 9) : w.cell? ⟨g, 1 + t * 4 + 1, none⟩ = some (.int .i64 (T t).r) := by
  rw [h.cell, show 1 + t * 4 + 1 = 4 * t + 1 + 1 by omega]; exact (tC_at T t ht).2.1
theorem FD.at2 (h : FD w g rb mb wb N f T) (t : Nat) (ht : t < 9) : w.cell? ⟨g, 1 + t * 4 + 2, none⟩ = some (.int .i64 (T t).q) := by
  rw [h.cell, show 1 + t * 4 + 2 = 4 * t + 2 + 1 by omega]; exact (tC_at T t ht).2.2.1
theorem FD.at3 (h : FD w g rb mb wb N f T) (t : Nat) (ht : t < 9) : w.cell? ⟨g, 1 + t * 4 + 3, none⟩ = some (.int .i64 (T t).c) := by
  rw [h.cell, show 1 + t * 4 + 3 = 4 * t + 3 + 1 by omega]; exact (tC_at T t ht).2.2.2
theorem FD.fz (h : FD w g rb mb wb N f T) (k : Nat) : w.frozen? ⟨g, k, none⟩ = false := by simp [World.frozen?, h.blk]
theorem FD.ne1 (h : FD w g rb mb wb N f T) : g ≠ rb := by
  intro e
  have h1 := h.row.row
  rw [← e, h.blk] at h1
  injection h1 with h1
  injection h1 with _ h1
  cases h1
theorem FD.ne2 (h : FD w g rb mb wb N f T) : g ≠ mb := by
  intro e
  obtain ⟨es, c, h1⟩ := h.row.map.isMap
  rw [← e, h.blk] at h1
  cases h1
theorem FD.ne3 (h : FD w g rb mb wb N f T) : g ≠ wb := by
  intro e
  obtain ⟨cs, wd, h1, _⟩ := h.row.wds
  rw [← e, h.blk] at h1
  injection h1 with h1
  injection h1 with _ h1
  cases h1
theorem FD.mods {S : Nat → Prop} (h : FD w g rb mb wb N f T) (hm : Mods S w w') (h0 : ¬ S g) (h1 : ¬ S rb) (h2 : ¬ S mb) (h3 : ¬ S wb) : FD w' g rb mb wb N f T :=
  ⟨(hm.block g h.lt h0).trans h.blk, h.row.mods hm h1 h2 h3, h.n2, h.inv⟩
theorem FD.below (h : FD w g rb mb wb N f T) (hb : Below w.heap.size w w') : FD w' g rb mb wb N f T := h.mods (S := fun _ => False) (Mods.of_below hb) id id id id
theorem FD.heap (h : FD w g rb mb wb N f T) (e : w'.heap = w.heap) : FD w' g rb mb wb N f T := ⟨by rw [e]; exact h.blk, h.row.heap e, h.n2, h.inv⟩
end
/-- What a change of a field may turn. -/
def Ft (g mb wb : Nat) : Nat → Prop := fun k => k = g ∨ k = mb ∨ k = wb
theorem sum9_le (h k : Nat → Int) (e : ∀ t, h t ≤ k t) : sum9 h ≤ sum9 k := by
  unfold sum9
  have := e 1; have := e 2; have := e 3; have := e 4; have := e 5; have := e 6; have := e 7; have := e 8
  omega
theorem sum9_nn (h : Nat → Int) (e : ∀ t, 0 ≤ h t) : 0 ≤ sum9 h := by
  unfold sum9
  have := e 1; have := e 2; have := e 3; have := e 4; have := e 5; have := e 6; have := e 7; have := e 8
  omega
theorem Inv.slack_le {N : Nat} {f : Nat → Nat} {T : Nat → Acc} (h : Inv N f T) : slack N T ≤ N := by
  have := sum9_nn (fun t => (T t).sh) (fun t => by have := (h.rq t).1; unfold Acc.sh; omega)
  unfold slack
  omega
/-- Where one may be charged, one is free. -/
theorem Inv.room {N : Nat} {f : Nat → Nat} {T : Nat → Acc} (h : Inv N f T) (t : Nat) (h1 : 1 ≤ t) (h8 : t ≤ 8) (hr : (T t).c < (T t).r ∨ slack N T ≠ 0) : cnt f N < N := by
  have hs := h.sl
  have h2 := h.sum
  have h3 := sum9_upd (fun k => (T k).c) (fun k => if k = t then (T t).sh else (T k).c) t h1 h8 (fun k hk => by simp [hk])
  simp only [if_true] at h3
  have h4 := sum9_le (fun k => if k = t then (T t).sh else (T k).c) (fun k => (T k).sh) (fun k => by
    by_cases hk : k = t
    · simp only [hk, if_true]; exact Int.le_refl _
    · simp only [hk, if_false]; unfold Acc.sh; omega)
  have h5 := sum9_le (fun k => (T k).c) (fun k => (T k).sh) (fun k => by unfold Acc.sh; omega)
  unfold slack at hs hr
  have h6 : (T t).c ≤ (T t).sh := by unfold Acc.sh; omega
  have h7 : (T t).c < (T t).r → (T t).c < (T t).sh := fun e => by unfold Acc.sh; omega
  rcases hr with hr | hr
  · have := h7 hr; omega
  · omega
end Go.Proofs.YtjdamlmoegippaaDoor.ex
