/-
  The laws' own way to use a field rightly: begin and do. Condition: it lies in memory.
-/
import Derived.Test.YtjgkochbfjlinaaR
namespace Go.Proofs.Ytjgkochbfjlinaa
open Go.RowKit
def updW (W : Nat → Int) (i : Nat) (v : Int) : Nat → Int := fun j => if j = i then v else W j
/-- A field, and whose each extent is. -/
structure OD (w : World) (og wh g rb mb wb N : Nat) (s : St) (W : Nat → Int) : Prop where
  own : w.heap[og]? = some (.cells #[.pointer (some ⟨g, 0, none⟩), .slice (some ⟨wh, 0, none⟩) N N] 68 (0, 0))
  who : ∃ cs : Array Value, w.heap[wh]? = some (.cells cs 3 (0, 0)) ∧ cs.size = N ∧ ∀ i, i < N → cs[i]? = some (.int .i64 (W i))
  fs : FS w g rb mb wb N s
def Dt (g mb wb wh : Nat) : Nat → Prop := fun k => (k = g ∨ k = mb ∨ k = wb) ∨ k = wh
section
variable {w w' : World} {og wh g rb mb wb N : Nat} {s s' : St} {W : Nat → Int}
theorem OD.c0 (h : OD w og wh g rb mb wb N s W) : w.cell? ⟨og, 0, none⟩ = some (.pointer (some ⟨g, 0, none⟩)) := by rw [cell_of_row _ _ _ _ _ _ h.own]; rfl
theorem OD.c1 (h : OD w og wh g rb mb wb N s W) : w.cell? ⟨og, 1, none⟩ = some (.slice (some ⟨wh, 0, none⟩) N N) := by rw [cell_of_row _ _ _ _ _ _ h.own]; rfl
theorem OD.lt1 (h : OD w og wh g rb mb wb N s W) : og < w.heap.size := (Array.getElem?_eq_some_iff.1 h.own).1
theorem OD.lt2 (h : OD w og wh g rb mb wb N s W) : wh < w.heap.size := by obtain ⟨cs, h1, _⟩ := h.who; exact (Array.getElem?_eq_some_iff.1 h1).1
theorem OD.cell (h : OD w og wh g rb mb wb N s W) (i : Nat) (hi : i < N) : w.cell? ⟨wh, i, none⟩ = some (.int .i64 (W i)) ∧ w.frozen? ⟨wh, i, none⟩ = false := by
  obtain ⟨cs, h1, h2, h3⟩ := h.who
  exact ⟨by rw [cell_of_row _ _ _ _ _ _ h1]; exact h3 i hi, by simp [World.frozen?, h1]⟩
theorem OD.ap1 (h : OD w og wh g rb mb wb N s W) : og ≠ g ∧ og ≠ rb ∧ og ≠ mb ∧ og ≠ wb ∧ og ≠ wh := by
  have e := h.own
  refine ⟨?_, ?_, ?_, ?_, ?_⟩ <;> intro k <;> rw [k] at e
  · rw [h.fs.blk] at e; injection e with e; injection e with _ e; cases e
  · rw [h.fs.row.row] at e; injection e with e; injection e with _ e; cases e
  · obtain ⟨es, c, h1⟩ := h.fs.row.map.isMap; rw [h1] at e; cases e
  · obtain ⟨cs, wd, h1, _⟩ := h.fs.row.wds; rw [h1] at e; injection e with e; injection e with _ e; cases e
  · obtain ⟨cs, h1, _⟩ := h.who; rw [h1] at e; injection e with e; injection e with _ e; cases e
theorem OD.ap2 (h : OD w og wh g rb mb wb N s W) : wh ≠ g ∧ wh ≠ rb ∧ wh ≠ mb ∧ wh ≠ wb := by
  obtain ⟨cs, e, _⟩ := h.who
  refine ⟨?_, ?_, ?_, ?_⟩ <;> intro k <;> rw [k] at e
  · rw [h.fs.blk] at e; injection e with e; injection e with _ e; cases e
  · rw [h.fs.row.row] at e; injection e with e; injection e with _ e; cases e
  · obtain ⟨es, c, h1⟩ := h.fs.row.map.isMap; rw [h1] at e; cases e
  · obtain ⟨cs, wd, h1, _⟩ := h.fs.row.wds; rw [h1] at e; injection e with e; injection e with _ e; cases e
/-- The field is turned. -/
theorem OD.turn (h : OD w og wh g rb mb wb N s W) (k : FS w' g rb mb wb N s') (m : Mods (Ft g mb wb) w w') : OD w' og wh g rb mb wb N s' W := by
  obtain ⟨cs, h1, h2, h3⟩ := h.who
  have a1 := h.ap1
  have a2 := h.ap2
  refine ⟨(m.block og h.lt1 (by unfold Ft; omega)).trans h.own, ⟨cs, (m.block wh h.lt2 (by unfold Ft; omega)).trans h1, h2, h3⟩, k⟩
theorem OD.mods {S : Nat → Prop} (h : OD w og wh g rb mb wb N s W) (m : Mods S w w') (h0 : ¬ S og) (h1 : ¬ S wh) (h2 : ¬ S g) (h3 : ¬ S rb) (h4 : ¬ S mb) (h5 : ¬ S wb) : OD w' og wh g rb mb wb N s W := by
  obtain ⟨cs, k1, k2, k3⟩ := h.who
  exact ⟨(m.block og h.lt1 h0).trans h.own, ⟨cs, (m.block wh h.lt2 h1).trans k1, k2, k3⟩, FD.mods h.fs m h2 h3 h4 h5⟩
theorem OD.below (h : OD w og wh g rb mb wb N s W) (hb : Below w.heap.size w w') : OD w' og wh g rb mb wb N s W := h.mods (S := fun _ => False) (Mods.of_below hb) id id id id id id
theorem OD.heap (h : OD w og wh g rb mb wb N s W) (e : w'.heap = w.heap) : OD w' og wh g rb mb wb N s W := ⟨by rw [e]; exact h.own, by rw [e]; exact h.who, FD.heap h.fs e⟩
/-- Whose an extent is, is turned. -/
theorem OD.set (h : OD w og wh g rb mb wb N s W) (i : Nat) (v : Int) : OD (w.setCell ⟨wh, i, none⟩ (.int .i64 v)) og wh g rb mb wb N s (updW W i v) ∧ Mods (Dt g mb wb wh) w (w.setCell ⟨wh, i, none⟩ (.int .i64 v)) := by
  obtain ⟨cs, h1, h2, h3⟩ := h.who
  have a1 := h.ap1
  have a2 := h.ap2
  have hm : Mods (fun k => k = wh) w (w.setCell ⟨wh, i, none⟩ (.int .i64 v)) := Mods.set _ _ _ rfl
  refine ⟨⟨(hm.block og h.lt1 (by omega)).trans h.own, ⟨cs.setIfInBounds i (.int .i64 v), blk_set h1 _ _, by simpa using h2, fun j hj => ?_⟩, FD.mods h.fs hm (by omega) (by omega) (by omega) (by omega)⟩, hm.mono (fun b hb => .inl (.inr hb))⟩
  rw [Array.getElem?_setIfInBounds]
  unfold updW
  by_cases e : i = j
  · rw [if_pos e, if_pos e.symm, if_pos (by omega)]
  · rw [if_neg e, if_neg (fun x => e x.symm)]; exact h3 j hj
theorem Ft_Dt {g mb wb wh b : Nat} (h : Ft g mb wb b) : Dt g mb wb wh b := .inl h
end
/-- What 'do' makes. -/
def doS (N : Nat) (s : St) (W : Nat → Int) (kd t a b : Int) (x : Nat) : (Nat × Int) × St × (Nat → Int) :=
  if kd = 0 then ((0, (sAdm N s t a b).1), (sAdm N s t a b).2, W)
  else if kd = 1 then ((0, (sRes N s t a b).1), (sRes N s t a b).2, W)
  else if kd = 2 then ((0, (sRem s t).1), (sRem s t).2, W)
  else if kd = 3 then ((xTak N s t, (sTak N s t).1), (sTak N s t).2, if (sTak N s t).1 = 0 then updW W (xTak N s t) t else W)
  else if kd = 4 ∨ kd = 5 then (if W (x % N) = t then ((0, (sHld N s (x % N)).1), (sHld N s (x % N)).2, W) else ((0, 0), s, W))
  else if kd = 6 then (if W (x % N) = t then ((0, (sDrp N s t (x % N)).1), (sDrp N s t (x % N)).2, if (sDrp N s t (x % N)).2.f (x % N) = 0 then updW W (x % N) 0 else W) else ((0, 0), s, W))
  else ((0, 0), s, W)
def DoP (w : World) (og wh g rb mb wb N : Nat) (r : (Nat × Int) × St × (Nat → Int)) (e : Ending) (w' : World) : Prop :=
  e = .returned (.tuple #[.int .u32 r.1.1, .int .i64 r.1.2]) ∧ OD w' og wh g rb mb wb N r.2.1 r.2.2 ∧ Mods (Dt g mb wb wh) w w'
/-- An op in a box. -/
def B5 (w : World) (v : Nat) (kd t a b x : Int) : Prop :=
  w.heap[v]? = some (.cells #[.int .i64 kd, .int .i64 t, .int .i64 a, .int .i64 b, .int .u32 x] 34 (0, 0))
section
variable {w w' : World} {og wh g rb mb wb N v : Nat} {s s' : St} {W : Nat → Int} {kd t a b x : Int}
theorem B5.c (h : B5 w v kd t a b x) : w.cell? ⟨v, 0, none⟩ = some (.int .i64 kd) ∧ w.cell? ⟨v, 1, none⟩ = some (.int .i64 t) ∧ w.cell? ⟨v, 2, none⟩ = some (.int .i64 a) ∧ w.cell? ⟨v, 3, none⟩ = some (.int .i64 b) ∧ w.cell? ⟨v, 4, none⟩ = some (.int .u32 x) := by
  refine ⟨?_, ?_, ?_, ?_, ?_⟩ <;> rw [cell_of_row _ _ _ _ _ _ h] <;> rfl
theorem B5.mods {S : Nat → Prop} (h : B5 w v kd t a b x) (m : Mods S w w') (hv : ¬ S v) : B5 w' v kd t a b x := (m.block v (Array.getElem?_eq_some_iff.1 h).1 hv).trans h
theorem B5.heap (h : B5 w v kd t a b x) (e : w'.heap = w.heap) : B5 w' v kd t a b x := by unfold B5; rw [e]; exact h
theorem B5.ap (h : B5 w v kd t a b x) (k : OD w og wh g rb mb wb N s W) : ¬ Ft g mb wb v ∧ ¬ Dt g mb wb wh v := by
  have e : w.heap[v]? = _ := h
  have h1 : v ≠ g := by intro k2; rw [k2, k.fs.blk] at e; injection e with e; injection e with _ e; cases e
  have h2 : v ≠ mb := by intro k2; obtain ⟨es, c, h1⟩ := k.fs.row.map.isMap; rw [k2, h1] at e; cases e
  have h3 : v ≠ wb := by intro k2; obtain ⟨cs, wd, h1, _⟩ := k.fs.row.wds; rw [k2, h1] at e; injection e with e; injection e with _ e; cases e
  have h4 : v ≠ wh := by intro k2; obtain ⟨cs, h1, _⟩ := k.who; rw [k2, h1] at e; injection e with e; injection e with _ e; cases e
  unfold Ft Dt
  omega
end
theorem sTak_lt {w : World} {g rb mb wb N : Nat} {s : St} (h : FS w g rb mb wb N s) (t : Int) (e : (sTak N s t).1 = 0) : xTak N s t < N := by
  unfold xTak
  rw [if_pos e]
  unfold sTak at e
  by_cases hm : isIn s.T t
  · rw [if_pos hm] at e
    unfold sGet at e
    by_cases hr : roomC N s.T t.toNat = 0
    · obtain ⟨h1, h8, _⟩ := hm
      obtain ⟨_, _, r3⟩ := roomC_room h t.toNat (by omega) (by omega) hr
      obtain ⟨k1, k2, _⟩ := fst_spec s.f N
      rcases Nat.lt_or_ge (fst s.f N) N with h | h
      · exact h
      · rw [cnt_full N (fun j hj => k2 j (by omega))] at r3
        exact absurd r3 (Nat.lt_irrefl _)
    · rw [if_neg hr] at e; exact absurd e hr
  · rw [if_neg hm] at e; cases e
theorem sTak_le {w : World} {g rb mb wb N : Nat} {s : St} (h : FS w g rb mb wb N s) (t : Int) : xTak N s t ≤ 2048 := by
  by_cases e : (sTak N s t).1 = 0
  · have := sTak_lt h t e; have := h.n2; omega
  · unfold xTak; rw [if_neg e]; omega
end Go.Proofs.Ytjgkochbfjlinaa
