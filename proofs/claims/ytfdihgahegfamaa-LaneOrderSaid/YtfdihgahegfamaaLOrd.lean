/-
  For every slice of ops the law LaneOrder of package casematelaw10 returns true, and the arguments read afterwards as before: what is put into a lane comes out of it, in order, each once; lanes do not touch each other. Condition: none.
-/
import Derived.Test.YtfdihgahegfamaaG
import Derived.Test.YtfdihgahegfamaaO
import Derived.Deep.QuietTactic
import Derived.BigQuiet
import Derived.IntWalk
import Derived.Deep.LoopGhost
namespace Go.Proofs.Ytfdihgahegfamaa.laneOrder
open Go.ChangeShapes Go.WideShapes Go.ChangeAt Go.RowKit Go.Conc Go.Deep
/-- A function turned at one place. -/
def upd {T : Type} (f : Nat → T) (m : Nat) (x : T) : Nat → T := fun j => if j = m then x else f j
theorem upd_self {T : Type} (f : Nat → T) (m : Nat) (x : T) : upd f m x m = x := if_pos rfl
theorem upd_ne {T : Type} (f : Nat → T) (m j : Nat) (x : T) (h : j ≠ m) : upd f m x j = f j := if_neg h
def arr4 (f : Nat → Value) : Array Value := ((List.range 4).map f).toArray
theorem arr4_set (f : Nat → Value) (m : Nat) (x : Value) : (arr4 f).setIfInBounds m x = arr4 (upd f m x) := by
  unfold arr4
  rw [List.setIfInBounds_toArray]
  congr 1
  apply List.ext_getElem
  · simp
  · intro j h1 h2
    rw [List.getElem_set]
    simp only [List.getElem_map, List.getElem_range]
    by_cases hj : m = j
    · subst hj; simp [upd]
    · rw [if_neg hj, upd_ne _ _ _ _ (fun e => hj e.symm)]
theorem arr4_at (f : Nat → Value) (m : Nat) (h : m < 4) : (arr4 f)[m]? = some (f m) := by simp [arr4, h]
/-- Four lanes that have R, and beside them what was put, and how much of it was taken. -/
structure LO (w0 wr : World) (g ga c0 gi go : Nat) (R : Nat → List Int) (vs : Nat → Value) (ins : Nat → List Int) (a : Nat → Nat) : Prop where
  ln : ∃ Q, LN 113 111 3 wr g ga c0 4 8 Q ∧ ∀ j, j < 4 → Q[j]? = some ((R j).map (Value.int .i64))
  hi : wr.heap[gi]? = some (.cells (arr4 vs) 86 (0, 0))
  ho : wr.heap[go]? = some (.cells (arr4 fun j => .int .i64 (a j : Nat)) 87 (0, 0))
  rw' : ∀ j, j < 4 → Rw wr 3 1 (vs j) (ins j).length ((ins j).map (Value.int .i64))
  ap : ∀ i j, i < 4 → j < 4 → i ≠ j → ∀ k, (vs i).ownBlock = some k → (vs j).ownBlock ≠ some k
  bx : ∀ j, j < 4 → ∀ k, (vs j).ownBlock = some k → ¬ BX wr c0 4 k
  b0 : w0.heap.size ≤ c0
  b1 : w0.heap.size ≤ gi
  b2 : w0.heap.size ≤ go
  bv : ∀ j, j < 4 → ∀ k, (vs j).ownBlock = some k → w0.heap.size ≤ k
  hb : Below w0.heap.size w0 wr
section
variable {w0 wr w' : World} {g ga c0 gi go : Nat} {R : Nat → List Int} {vs : Nat → Value} {ins : Nat → List Int} {a : Nat → Nat}
theorem cs_chan {Q : List (List Value)} (h : LN 113 111 3 wr g ga c0 4 8 Q) {k : Nat} (hk : CS c0 4 k) : ∃ cp b x y z u, wr.heap[k]? = some (.chan cp b x y z u) := by
  obtain ⟨h1, h2⟩ := hk
  obtain ⟨i, hi⟩ : ∃ i, k = c0 + i := ⟨k - c0, by omega⟩
  subst hi
  have hl := h.hl
  obtain ⟨b, s, r, h3, _⟩ := h.hc i (Q[i]'(by omega)) (List.getElem?_eq_getElem _)
  exact ⟨_, _, _, _, _, _, h3⟩
theorem not_cs {Q : List (List Value)} (h : LN 113 111 3 wr g ga c0 4 8 Q) {k t : Nat} {cs : Array Value} (hk : wr.heap[k]? = some (.cells cs t (0, 0))) : ¬ CS c0 4 k := fun e => by
  obtain ⟨_, _, _, _, _, _, h2⟩ := cs_chan h e
  rw [hk] at h2; cases h2
theorem own_cells {v : Value} {n : Nat} {xs : List Value} (h : Rw wr 3 1 v n xs) {k : Nat} (hk : v.ownBlock = some k) : ∃ cs, wr.heap[k]? = some (.cells cs 3 (0, 0)) := by
  rcases h.2.2 with ⟨rfl, _⟩ | ⟨b, o, cap, cs, rfl, hg, _⟩
  · simp [Value.ownBlock] at hk
  · simp [Value.ownBlock] at hk
    subst hk
    exact ⟨cs, hg⟩
/-- A lane is turned. -/
theorem LO.turnq (h : LO w0 wr g ga c0 gi go R vs ins a) {m : Nat} (hm4 : m < 4) {R' : List Int} (hln : ∃ Q, LN 113 111 3 w' g ga c0 4 8 Q ∧ ∀ j, j < 4 → Q[j]? = some ((upd R m R' j).map (Value.int .i64))) (hm : Mods (CS c0 4) wr w') (hbx : ∀ q, BX w' c0 4 q → BX wr c0 4 q ∨ wr.heap.size ≤ q) :
    LO w0 w' g ga c0 gi go (upd R m R') vs ins a := by
  obtain ⟨Q, hQ, _⟩ := h.ln
  exact ⟨hln, (hm.block gi (Array.getElem?_eq_some_iff.1 h.hi).1 (not_cs hQ h.hi)).trans h.hi, (hm.block go (Array.getElem?_eq_some_iff.1 h.ho).1 (not_cs hQ h.ho)).trans h.ho,
    fun j hj => (h.rw' j hj).mods hm (fun k hk e => by obtain ⟨cs, hc⟩ := own_cells (h.rw' j hj) hk; exact not_cs hQ hc e), h.ap,
    fun j hj k hk hb => by
      rcases hbx k hb with h1 | h1
      · exact h.bx j hj k hk h1
      · have := (h.rw' j hj).lt k hk; omega, h.b0, h.b1, h.b2, h.bv, Mods.cs h.hb hm h.hb.size h.b0⟩
theorem LO.below (h : LO w0 wr g ga c0 gi go R vs ins a) (hb : Below wr.heap.size wr w') : LO w0 w' g ga c0 gi go R vs ins a := by
  obtain ⟨Q, hQ, hq⟩ := h.ln
  have hc4 : c0 + 4 ≤ wr.heap.size := by
    obtain ⟨_, _, _, _, _, _, h2⟩ := cs_chan hQ (k := c0 + 3) ⟨by omega, by omega⟩
    have := (Array.getElem?_eq_some_iff.1 h2).1; omega
  exact ⟨⟨Q, hQ.below hb, hq⟩, (hb.block gi (Array.getElem?_eq_some_iff.1 h.hi).1).trans h.hi, (hb.block go (Array.getElem?_eq_some_iff.1 h.ho).1).trans h.ho,
    fun j hj => (h.rw' j hj).mods (S := fun _ => False) (Mods.of_below hb) (fun _ _ => id), h.ap,
    fun j hj k hk hx => h.bx j hj k hk (bx_mods (S := fun _ => False) (Mods.of_below hb) (fun _ _ => id) hc4 k hx), h.b0, h.b1, h.b2, h.bv, h.hb.trans (hb.mono h.hb.size)⟩
/-- What was put is noted. -/
theorem LO.turnin (h : LO w0 wr g ga c0 gi go R vs ins a) {m : Nat} (hm4 : m < 4) {v' : Value} {x : Int} (hr : Rw w' 3 1 v' (ins m ++ [x]).length ((ins m ++ [x]).map (Value.int .i64))) (hm : Mods (fun k => (vs m).ownBlock = some k) wr w') (ha : Anew wr (vs m) v') :
    w'.cell? ⟨gi, m, none⟩ = some (vs m) ∧ w'.frozen? ⟨gi, m, none⟩ = false ∧ LO w0 (w'.setCell ⟨gi, m, none⟩ v') g ga c0 gi go R (upd vs m v') (upd ins m (ins m ++ [x])) a := by
  obtain ⟨Q, hQ, hq⟩ := h.ln
  have hc4 : c0 + 4 ≤ wr.heap.size := by
    obtain ⟨_, _, _, _, _, _, h2⟩ := cs_chan hQ (k := c0 + 3) ⟨by omega, by omega⟩
    have := (Array.getElem?_eq_some_iff.1 h2).1; omega
  have ty : ∀ {k t : Nat} {cs : Array Value}, wr.heap[k]? = some (.cells cs t (0, 0)) → t ≠ 3 → ¬ (vs m).ownBlock = some k := fun hk ht e => (h.rw' m hm4).ty hk (fun e2 => ht e2.symm) e
  have hi1 : w'.heap[gi]? = some (.cells (arr4 vs) 86 (0, 0)) := (hm.block gi (Array.getElem?_eq_some_iff.1 h.hi).1 (ty h.hi (by decide))).trans h.hi
  have hset : Mods (fun k => k = gi) w' (w'.setCell ⟨gi, m, none⟩ v') := Mods.set _ ⟨gi, m, none⟩ _ rfl
  have hall : Mods (fun k => k = gi ∨ (vs m).ownBlock = some k) wr (w'.setCell ⟨gi, m, none⟩ v') := (hm.mono (fun _ hb => .inl (.inr hb))).trans hset (fun _ hb => .inl (.inl hb))
  have hne : ∀ {k t : Nat} {cs : Array Value}, wr.heap[k]? = some (.cells cs t (0, 0)) → t ≠ 86 → ¬ k = gi := fun hk ht e => by
    subst e; rw [h.hi] at hk; injection hk with hk; injection hk with _ ht2; exact ht ht2.symm
  have hnc : ∀ i, i < 4 → ¬ (c0 + i = gi ∨ (vs m).ownBlock = some (c0 + i)) := fun i hi e => by
    obtain ⟨_, _, _, _, _, _, h2⟩ := cs_chan hQ (k := c0 + i) ⟨by omega, by omega⟩
    rcases e with e | e
    · rw [e, h.hi] at h2; cases h2
    · obtain ⟨cs, hc⟩ := own_cells (h.rw' m hm4) e
      rw [h2] at hc; cases hc
  have hbxt : ∀ q, BX wr c0 4 q → ∃ x, wr.heap[q]? = some (.cells #[x] 3 (0, 0)) := by
    rintro q ⟨i, cp, s, r, j, bf, hi4, hh, hj⟩
    obtain ⟨bf2, s2, r2, h1, h2, h3, h4⟩ := hQ.hc i _ (hq i hi4)
    rw [h1] at hh
    simp only [Option.some.injEq, Obj.chan.injEq] at hh
    obtain ⟨_, rfl, _, _, _, _⟩ := hh
    have hjl : j < ((R i).map (Value.int .i64)).length := by have := (Array.getElem?_eq_some_iff.1 hj).1; omega
    obtain ⟨q2, hq1, hq2⟩ := h4 j _ (List.getElem?_eq_getElem hjl)
    rw [hq1] at hj
    simp at hj
    subst hj
    exact ⟨_, hq2⟩
  refine ⟨by rw [cell_of_row _ _ _ _ _ _ hi1]; exact arr4_at vs m hm4, by simp [World.frozen?, hi1], ⟨⟨Q, hQ.mods hall ?_ ?_ hnc ?_, hq⟩, ?_, ?_, fun j hj => ?_, fun i j hi hj hij k hk hk2 => ?_, fun j hj k hk hx => ?_, h.b0, h.b1, h.b2, fun j hj k hk => ?_, ?_⟩⟩
  · rintro (e | e); exact hne hQ.hs (by decide) e; exact ty hQ.hs (by decide) e
  · rintro (e | e); exact hne hQ.ha (by decide) e; exact ty hQ.ha (by decide) e
  · rintro q hb (e | e)
    · obtain ⟨y, hy⟩ := hbxt q hb
      exact hne hy (by decide) e
    · exact h.bx m hm4 q e hb
  · rw [← arr4_set]
    simp [World.setCell, Array.getElem?_modify, hi1]
  · exact (hall.block go (Array.getElem?_eq_some_iff.1 h.ho).1 (by rintro (e | e); exact hne h.ho (by decide) e; exact ty h.ho (by decide) e)).trans h.ho
  · by_cases hjm : j = m
    · subst hjm
      rw [upd_self, upd_self]
      exact hr.mods hset (fun k hk e => by
        subst e
        rcases ha _ hk with h1 | h1
        · exact ty h.hi (by decide) h1
        · have := (Array.getElem?_eq_some_iff.1 h.hi).1; omega)
    · rw [upd_ne _ _ _ _ hjm, upd_ne _ _ _ _ hjm]
      refine (h.rw' j hj).mods hall (fun k hk e => ?_)
      rcases e with e | e
      · subst e; exact (h.rw' j hj).ty h.hi (by decide) hk
      · exact h.ap j m hj hm4 hjm k hk e
  · by_cases him : i = m
    · subst him
      rw [upd_self] at hk
      rw [upd_ne _ _ _ _ (fun e => hij e.symm)] at hk2
      rcases ha _ hk with h1 | h1
      · exact h.ap i j hi hj hij k h1 hk2
      · have := (h.rw' j hj).lt k hk2; omega
    · rw [upd_ne _ _ _ _ him] at hk
      by_cases hjm : j = m
      · subst hjm
        rw [upd_self] at hk2
        rcases ha _ hk2 with h1 | h1
        · exact h.ap i j hi hj hij k hk h1
        · have := (h.rw' i hi).lt k hk; omega
      · rw [upd_ne _ _ _ _ hjm] at hk2
        exact h.ap i j hi hj hij k hk hk2
  · have hx2 := bx_mods hall hnc hc4 k hx
    by_cases hjm : j = m
    · subst hjm
      rw [upd_self] at hk
      rcases ha _ hk with h1 | h1
      · exact h.bx j hj k h1 hx2
      · obtain ⟨y, hy⟩ := hbxt k hx2
        have := (Array.getElem?_eq_some_iff.1 hy).1; omega
    · rw [upd_ne _ _ _ _ hjm] at hk
      exact h.bx j hj k hk hx2
  · by_cases hjm : j = m
    · subst hjm
      rw [upd_self] at hk
      rcases ha _ hk with h1 | h1
      · exact h.bv j hj k h1
      · have := h.hb.size; omega
    · rw [upd_ne _ _ _ _ hjm] at hk
      exact h.bv j hj k hk
  · exact Mods.below h.hb hall h.hb.size (fun k hk => by
      rcases hk with rfl | hk
      · exact h.b1
      · exact h.bv m hm4 k hk)
/-- What was taken is noted. -/
theorem LO.turnout (h : LO w0 wr g ga c0 gi go R vs ins a) {m : Nat} (hm4 : m < 4) (y : Nat) :
    wr.cell? ⟨go, m, none⟩ = some (.int .i64 (a m : Nat)) ∧ wr.frozen? ⟨go, m, none⟩ = false ∧ LO w0 (wr.setCell ⟨go, m, none⟩ (.int .i64 (y : Nat))) g ga c0 gi go R vs ins (upd a m y) := by
  obtain ⟨Q, hQ, hq⟩ := h.ln
  have hc4 : c0 + 4 ≤ wr.heap.size := by
    obtain ⟨_, _, _, _, _, _, h2⟩ := cs_chan hQ (k := c0 + 3) ⟨by omega, by omega⟩
    have := (Array.getElem?_eq_some_iff.1 h2).1; omega
  have hset : Mods (fun k => k = go) wr (wr.setCell ⟨go, m, none⟩ (.int .i64 (y : Nat))) := Mods.set _ ⟨go, m, none⟩ _ rfl
  have hne : ∀ {k t : Nat} {cs : Array Value}, wr.heap[k]? = some (.cells cs t (0, 0)) → t ≠ 87 → ¬ k = go := fun hk ht e => by
    subst e; rw [h.ho] at hk; injection hk with hk; injection hk with _ ht2; exact ht ht2.symm
  have hnc : ∀ i, i < 4 → ¬ c0 + i = go := fun i hi e => by
    obtain ⟨_, _, _, _, _, _, h2⟩ := cs_chan hQ (k := c0 + i) ⟨by omega, by omega⟩
    rw [e, h.ho] at h2; cases h2
  have hbxt : ∀ q, BX wr c0 4 q → ∃ x, wr.heap[q]? = some (.cells #[x] 3 (0, 0)) := by
    rintro q ⟨i, cp, s, r, j, bf, hi4, hh, hj⟩
    obtain ⟨bf2, s2, r2, h1, h2, h3, h4⟩ := hQ.hc i _ (hq i hi4)
    rw [h1] at hh
    simp only [Option.some.injEq, Obj.chan.injEq] at hh
    obtain ⟨_, rfl, _, _, _, _⟩ := hh
    have hjl : j < ((R i).map (Value.int .i64)).length := by have := (Array.getElem?_eq_some_iff.1 hj).1; omega
    obtain ⟨q2, hq1, hq2⟩ := h4 j _ (List.getElem?_eq_getElem hjl)
    rw [hq1] at hj
    simp at hj
    subst hj
    exact ⟨_, hq2⟩
  refine ⟨by rw [cell_of_row _ _ _ _ _ _ h.ho]; exact arr4_at _ m hm4, by simp [World.frozen?, h.ho], ⟨⟨Q, hQ.mods hset (hne hQ.hs (by decide)) (hne hQ.ha (by decide)) hnc (fun q hb => by obtain ⟨z, hz⟩ := hbxt q hb; exact hne hz (by decide)), hq⟩, (hset.block gi (Array.getElem?_eq_some_iff.1 h.hi).1 (hne h.hi (by decide))).trans h.hi, ?_, fun j hj => (h.rw' j hj).mods hset (fun k hk e => by subst e; exact (h.rw' j hj).ty h.ho (by decide) hk), h.ap, fun j hj k hk hx => h.bx j hj k hk (bx_mods hset hnc hc4 k hx), h.b0, h.b1, h.b2, h.bv, Mods.below h.hb hset h.hb.size (fun k hk => by rw [hk]; exact h.b2)⟩⟩
  have hf : (fun j => Value.int .i64 ((upd a m y j : Nat) : Int)) = upd (fun j => Value.int .i64 ((a j : Nat) : Int)) m (.int .i64 (y : Nat)) := by
    funext j
    by_cases hj : j = m
    · subst hj; rw [upd_self, upd_self]
    · rw [upd_ne _ _ _ _ hj, upd_ne _ _ _ _ hj]
  rw [hf, ← arr4_set]
  have hh := h.ho
  simp [World.setCell, Array.getElem?_modify, hh]
end
theorem eqPut (ins : Nat → List Int) (a : Nat → Nat) (m : Nat) (x : Int) (h : a m ≤ (ins m).length) : (fun j => (upd ins m (ins m ++ [x]) j).drop (a j)) = upd (fun j => (ins j).drop (a j)) m ((ins m).drop (a m) ++ [x]) := by
  funext j
  by_cases hj : j = m
  · subst hj; rw [upd_self, upd_self, List.drop_append_of_le_length h]
  · rw [upd_ne _ _ _ _ hj, upd_ne _ _ _ _ hj]
theorem eqTake (ins : Nat → List Int) (a : Nat → Nat) (m : Nat) : (fun j => (ins j).drop (upd a m (a m + 1) j)) = upd (fun j => (ins j).drop (a j)) m ((ins m).drop (a m + 1)) := by
  funext j
  by_cases hj : j = m
  · subst hj; rw [upd_self, upd_self]
  · rw [upd_ne _ _ _ _ hj, upd_ne _ _ _ _ hj]
theorem setQ {Q : List (List Value)} {R : Nat → List Int} (hl : Q.length = 4) (hq : ∀ j, j < 4 → Q[j]? = some ((R j).map (Value.int .i64))) (m : Nat) (hm : m < 4) (R' : List Int) : ∀ j, j < 4 → (Q.set m (R'.map (Value.int .i64)))[j]? = some ((upd R m R' j).map (Value.int .i64)) := fun j hj => by
  by_cases hjm : j = m
  · subst hjm; rw [upd_self, List.getElem?_set_self (by omega)]
  · rw [upd_ne _ _ _ _ hjm, List.getElem?_set_ne (fun e => hjm e.symm)]; exact hq j hj
def Rel (ins : Nat → List Int) (a : Nat → Nat) (i : Nat) : Prop := ∀ j, j < 4 → a j ≤ (ins j).length ∧ (ins j).length ≤ i ∧ (ins j).length - a j ≤ 8
theorem rel_same {ins : Nat → List Int} {a : Nat → Nat} {i : Nat} (h : Rel ins a i) : Rel ins a (i + 1) := fun j hj => by have := h j hj; omega
theorem rel_in (ins : Nat → List Int) (a : Nat → Nat) (i m : Nat) (x : Int) (h : Rel ins a i) (hm : m < 4) (hr : (ins m).length - a m < 8) : Rel (upd ins m (ins m ++ [x])) a (i + 1) := fun j hj => by
  have h1 := h j hj
  by_cases hjm : j = m
  · subst hjm; rw [upd_self]; simp; omega
  · rw [upd_ne _ _ _ _ hjm]; omega
theorem rel_out {ins : Nat → List Int} {a : Nat → Nat} {i m : Nat} (h : Rel ins a i) (hm : m < 4) (hr : a m < (ins m).length) : Rel ins (upd a m (a m + 1)) (i + 1) := fun j hj => by
  have h1 := h j hj
  by_cases hjm : j = m
  · subst hjm; rw [upd_self]; omega
  · rw [upd_ne _ _ _ _ hjm]; omega

set_option maxRecDepth 100000 in
set_option maxHeartbeats 8000000 in
theorem walk (lv : Value) (L : Nat) (f : Nat → Nat → Int) (w : World) (h : SO 3 w lv L f) :
    Calls Try.prog 10 #[lv] w fun e w' => e = .returned (.bool true) ∧ Below w.heap.size w w' := by
  obtain ⟨x, c, rfl, hx1, hx2, hx3⟩ := h
  unfold maxLen at hx2
  have X := Lib.hid hx3
  clear hx3
  go_enter Try.func10, Try.ntmps10
  go_wp2_with fail
  refine (newL 4 8 (by omega) (by omega) (by omega) (by omega) w).mono ?_
  rintro e w1 ⟨g, ga, c0, rfl, hln, hc0, hg, hb1⟩
  obtain ⟨gi, hgi⟩ : ∃ gi, gi = w1.heap.size := ⟨_, rfl⟩
  obtain ⟨go, hgo⟩ : ∃ go, go = w1.heap.size + 1 := ⟨_, rfl⟩
  obtain ⟨w2, hw2⟩ : ∃ w2, w2 = (w1.alloc (.cells #[.slice none 0 0, .slice none 0 0, .slice none 0 0, .slice none 0 0] 86)).alloc (.cells #[.int .i64 0, .int .i64 0, .int .i64 0, .int .i64 0] 87) := ⟨_, rfl⟩
  have S0 : Hid (LO w w2 g ga c0 gi go (fun j => (([] : List Int)).drop ((fun _ => 0) j)) (fun _ => .slice none 0 0) (fun _ => []) (fun _ => 0)) := by
    show LO _ _ _ _ _ _ _ _ _ _ _
    have hbb : Below w1.heap.size w1 w2 := by rw [hw2]; exact ((Below.refl _ _).alloc (Nat.le_refl _) _).alloc (by simp) _
    refine ⟨⟨_, hln.below hbb, fun j hj => by rw [List.getElem?_replicate, if_pos hj]; rfl⟩, ?_, ?_, fun j hj => Rw.nil _ _ _, fun i j hi hj hij k hk => by simp [Value.ownBlock] at hk, fun j hj k hk => by simp [Value.ownBlock] at hk, hc0, by have := hb1.size; omega, by have := hb1.size; omega, fun j hj k hk => by simp [Value.ownBlock] at hk, hb1.trans (hbb.mono hb1.size)⟩
    · rw [hw2, hgi, Below.heap_alloc _ _ _ (by simp)]; exact heap_alloc_new _ _
    · rw [hw2, hgo]
      have := heap_alloc_new (w1.alloc (.cells #[.slice none 0 0, .slice none 0 0, .slice none 0 0, .slice none 0 0] 86)) (.cells #[.int .i64 0, .int .i64 0, .int .i64 0, .int .i64 0] 87)
      rw [World.size_alloc] at this
      exact this
  have HW2 := Lib.hid hw2
  have HGI := Lib.hid hgi
  have HGO := Lib.hid hgo
  clear hln hc0 hg hb1 hw2 hgi hgo
  go_wp2_with fail
  rw [← HW2.out, ← HGO.out, ← HGI.out]
  go_loopg [7] (min L 200) (fun r vi wr => ∃ (i : Nat) (vs : Nat → Value) (ins : Nat → List Int) (a : Nat → Nat), r + i = min L 200 ∧ vi = .int .i64 i ∧ Rel ins a i ∧ LO w wr g ga c0 gi go (fun j => (ins j).drop (a j)) vs ins a)
  case atStart => exact ⟨0, _, _, _, by omega, rfl, fun j hj => by simp, S0.out⟩
  case round =>
    clear S0
    obtain ⟨i, vs, ins, a, hr, rfl, ha4, hs⟩ := hrel
    have S := Lib.hid hs
    clear hs
    by_cases hlt : i < L
    · by_cases h200 : i < 200
      · obtain ⟨p0, p1, b, o, rfl, hb1, hd0⟩ := X.out i 0 hlt (by omega)
        obtain ⟨p2, p3, b', o', he, _, hd1⟩ := X.out i 1 hlt (by omega)
        simp only [Option.some.injEq, Addr.mk.injEq] at he
        obtain ⟨rfl, rfl, _⟩ := he
        rw [Nat.add_zero] at hd0
        have hc0' : wr.cell? ⟨b, o + i * 3, none⟩ = some (.int .i64 (f i 0)) := (S.out.hb.cell (p := ⟨b, o + i * 3, none⟩) hb1).trans hd0
        have hc1' : wr.cell? ⟨b, o + i * 3 + 1, none⟩ = some (.int .i64 (f i 1)) := by rw [Nat.add_assoc]; exact (S.out.hb.cell (p := ⟨b, o + (i * 3 + 1), none⟩) hb1).trans hd1
        generalize f i 0 = kd at *
        generalize f i 1 = la at *
        obtain ⟨ev, hev, hev1⟩ := and_le kd 1 (by omega)
        obtain ⟨m, hmm, hm3⟩ := and_le la 3 (by omega)
        have hm4 : m < 4 := by omega
        change bits .and .i64 kd 1 = _ at hev
        change bits .and .i64 la 3 = _ at hmm
        clear hd0 hd1
        have hk4 := ha4 m hm4
        have hvs := S.out.rw' m hm4
        obtain ⟨xv, cv, hvf, hv1, hv2⟩ := hvs.form
        unfold maxLen at hv2
        obtain ⟨Q, hQ, hq⟩ := S.out.ln
        have HQ := Lib.hid hQ
        clear hvs hQ
        have hwr : IntKind.i64.wrap (((ins m).length : Int) - ((a m : Nat) : Int)) = ((ins m).length : Int) - ((a m : Nat) : Int) := IntWalk.i64_in _ (by omega)
        have hik : ev = 0 ∨ ev = 1 := by omega
        rcases hik with rfl | rfl
        · by_cases hroom : (ins m).length - a m < 8
          · go_wp2_with fail
            refine (putB HQ.out m _ (hq m hm4) (by simp; omega) (i : Nat)).mono ?_
            rintro e w2 ⟨rfl, hln, hmd, hbx⟩
            have S2 : Hid (LO w w2 g ga c0 gi go (upd (fun j => (ins j).drop (a j)) m ((ins m).drop (a m) ++ [(i : Int)])) vs ins a) := S.out.turnq hm4 ⟨_, by simpa using hln, by simpa using setQ HQ.out.hl hq m hm4 ((ins m).drop (a m) ++ [(i : Int)])⟩ hmd hbx
            clear hln hmd hbx HQ hq
            have hcI : ∀ q, (w2.drewN q).cell? ⟨gi, m, none⟩ = some (.slice xv (ins m).length cv) := fun q => by
              show w2.cell? _ = _
              rw [cell_of_row _ _ _ _ _ _ S2.out.hi, arr4_at _ m hm4, hvf]
            have hcO : ∀ q, (w2.drewN q).cell? ⟨go, m, none⟩ = some (.int .i64 (a m : Nat)) := fun q => by
              show w2.cell? _ = _
              rw [cell_of_row _ _ _ _ _ _ S2.out.ho, arr4_at _ m hm4]
            have hcI' := hcI 0
            have hcO' := hcO 0
            change w2.cell? _ = _ at hcI'
            change w2.cell? _ = _ at hcO'
            have key : ∀ q, ∃ y cc w3, (Builtin.append_ #[29, 29] 29 #[.slice xv (ins m).length cv, .slice (some ⟨w2.heap.size, 0, none⟩) 1 1]).run Try.prog ((w2.drewN q).alloc (.cells #[.int .i64 (i : Nat)] 3)) = .ok (.slice y ((ins m).length + 1) cc) w3 ∧
                w3.cell? ⟨gi, m, none⟩ = some (.slice xv (ins m).length cv) ∧ w3.frozen? ⟨gi, m, none⟩ = false ∧ LO w (w3.setCell ⟨gi, m, none⟩ (.slice y ((ins m).length + 1) cc)) g ga c0 gi go (fun j => (upd ins m (ins m ++ [(i : Int)]) j).drop (a j)) (upd vs m (.slice y ((ins m).length + 1) cc)) (upd ins m (ins m ++ [(i : Int)])) a := by
              intro q
              have sq : LO w (w2.drewN q) g ga c0 gi go (upd (fun j => (ins j).drop (a j)) m ((ins m).drop (a m) ++ [(i : Int)])) vs ins a := S2.out.below ⟨rfl, rfl, rfl, Nat.le_refl _, fun _ _ => rfl⟩
              have hrw := sq.rw' m hm4
              rw [hvf] at hrw
              obtain ⟨y, cc, w3, k1, k2, k3, k4⟩ := hrw.pushI (i : Nat) (by omega)
              rw [← hvf] at k3 k4
              obtain ⟨t1, t2, t3⟩ := sq.turnin hm4 k2 k3 k4
              rw [← eqPut ins a m i (ha4 m hm4).1] at t3
              rw [hvf] at t1
              exact ⟨y, cc, w3, k1, t1, t2, t3⟩
            have KEY := Lib.hid key
            clear key
            have hd : decide (((ins m).length : Int) - (a m : Nat) < 8) = true := by simp; omega
            go_wp2_with fail
            go_quiet (fail)
            obtain ⟨y, cc, w3, k1, k2, k3, k4⟩ := KEY.out nq
            have K1 := Lib.hid k1
            have K4 := Lib.hid k4
            clear k1 k4 KEY hd hwr
            go_wp2_with (at_builtin; refine wpList_appK 29 rfl (.tmp 66) (.tmp 68) rfl rfl rfl rfl K1.out ?_)
            go_roundg (min L 200 - (i + 1))
            case measure => omega
            case rel => exact ⟨i + 1, _, _, a, by omega, by go_num, rel_in _ _ _ _ _ ha4 hm4 hroom, K4.out⟩
          · go_wp2_with fail
            refine (putL_full HQ.out m _ (hq m hm4) (by simp; omega) (i : Nat)).mono ?_
            rintro e w2 ⟨rfl, hbl⟩
            have S2 := Lib.hid (S.out.below hbl)
            clear hbl HQ hq
            have hcI : ∀ q, (w2.drewN q).cell? ⟨gi, m, none⟩ = some (.slice xv (ins m).length cv) := fun q => by
              show w2.cell? _ = _
              rw [cell_of_row _ _ _ _ _ _ S2.out.hi, arr4_at _ m hm4, hvf]
            have hcO : ∀ q, (w2.drewN q).cell? ⟨go, m, none⟩ = some (.int .i64 (a m : Nat)) := fun q => by
              show w2.cell? _ = _
              rw [cell_of_row _ _ _ _ _ _ S2.out.ho, arr4_at _ m hm4]
            have hcI' := hcI 0
            have hcO' := hcO 0
            change w2.cell? _ = _ at hcI'
            change w2.cell? _ = _ at hcO'
            have hd : decide (((ins m).length : Int) - (a m : Nat) < 8) = false := by simp; omega
            go_wp2_with fail
            go_quiet (fail)
            clear hd hwr
            go_wp2_with fail
            go_roundg (min L 200 - (i + 1))
            case measure => omega
            case rel => exact ⟨i + 1, vs, ins, a, by omega, by go_num, rel_same ha4, S2.out.below ⟨rfl, rfl, rfl, Nat.le_refl _, fun _ _ => rfl⟩⟩
        · by_cases hne : a m < (ins m).length
          · go_wp2_with fail
            have hx : (ins m)[a m]? = some ((ins m)[a m]'(by omega)) := List.getElem?_eq_getElem _
            generalize (ins m)[a m]'(by omega) = xx at hx
            have hdr : (ins m).drop (a m) = xx :: (ins m).drop (a m + 1) := by
              obtain ⟨h1, h2⟩ := List.getElem?_eq_some_iff.1 hx
              rw [List.drop_eq_getElem_cons h1, h2]
            have hqm := hq m hm4
            rw [hdr, List.map_cons] at hqm
            refine (takeB HQ.out m xx _ hqm).mono ?_
            rintro e w2 ⟨rfl, hln, hmd, hbx⟩
            have S2 : Hid (LO w w2 g ga c0 gi go (upd (fun j => (ins j).drop (a j)) m ((ins m).drop (a m + 1))) vs ins a) := S.out.turnq hm4 ⟨_, hln, setQ HQ.out.hl hq m hm4 ((ins m).drop (a m + 1))⟩ hmd hbx
            clear hln hmd hbx HQ hq hqm hdr
            have hcI : ∀ q, (w2.drewN q).cell? ⟨gi, m, none⟩ = some (.slice xv (ins m).length cv) := fun q => by
              show w2.cell? _ = _
              rw [cell_of_row _ _ _ _ _ _ S2.out.hi, arr4_at _ m hm4, hvf]
            have hcO : ∀ q, (w2.drewN q).cell? ⟨go, m, none⟩ = some (.int .i64 (a m : Nat)) := fun q => by
              show w2.cell? _ = _
              rw [cell_of_row _ _ _ _ _ _ S2.out.ho, arr4_at _ m hm4]
            have hcI' := hcI 0
            have hcO' := hcO 0
            change w2.cell? _ = _ at hcI'
            change w2.cell? _ = _ at hcO'
            have hrw := S2.out.rw' m hm4
            rw [hvf] at hrw
            obtain ⟨vb, vo, rfl, hcx, _⟩ := hrw.cell (j := a m) (u := .int .i64 xx) (by simp [hx])
            have hcX : ∀ q, (w2.drewN q).cell? ⟨vb, vo + a m, none⟩ = some (.int .i64 xx) := fun q => hcx
            clear hrw hx
            have hd : decide (((a m : Nat) : Int) < ((ins m).length : Int)) = true := by simp; omega
            have hd2 : decide (a m < (ins m).length) = true := by simp; omega
            go_wp2_with fail
            go_quiet (fail)
            clear hd hd2 hwr
            have sq : LO w (w2.drewN nq) g ga c0 gi go (upd (fun j => (ins j).drop (a j)) m ((ins m).drop (a m + 1))) vs ins a := S2.out.below ⟨rfl, rfl, rfl, Nat.le_refl _, fun _ _ => rfl⟩
            obtain ⟨t1, t2, t3⟩ := sq.turnout hm4 (a m + 1)
            rw [← eqTake] at t3
            have T3 := Lib.hid t3
            clear sq t3
            go_wp2_with fail
            go_roundg (min L 200 - (i + 1))
            case measure => omega
            case rel => exact ⟨i + 1, vs, ins, _, by omega, by go_num, rel_out ha4 hm4 hne, T3.out⟩
          · go_wp2_with fail
            have hqm := hq m hm4
            rw [show (ins m).drop (a m) = [] from List.drop_eq_nil_of_le (by omega)] at hqm
            refine (takeL_no HQ.out m hqm).mono ?_
            rintro e w2 ⟨rfl, hbl⟩
            have S2 := Lib.hid (S.out.below hbl)
            clear hbl HQ hq hqm
            have hcI : ∀ q, (w2.drewN q).cell? ⟨gi, m, none⟩ = some (.slice xv (ins m).length cv) := fun q => by
              show w2.cell? _ = _
              rw [cell_of_row _ _ _ _ _ _ S2.out.hi, arr4_at _ m hm4, hvf]
            have hcO : ∀ q, (w2.drewN q).cell? ⟨go, m, none⟩ = some (.int .i64 (a m : Nat)) := fun q => by
              show w2.cell? _ = _
              rw [cell_of_row _ _ _ _ _ _ S2.out.ho, arr4_at _ m hm4]
            have hcI' := hcI 0
            have hcO' := hcO 0
            change w2.cell? _ = _ at hcI'
            change w2.cell? _ = _ at hcO'
            have hd : decide (((a m : Nat) : Int) < ((ins m).length : Int)) = false := by simp; omega
            have hd2 : decide (a m < (ins m).length) = false := by simp; omega
            go_wp2_with fail
            go_quiet (fail)
            clear hd hd2 hwr
            go_wp2_with fail
            go_roundg (min L 200 - (i + 1))
            case measure => omega
            case rel => exact ⟨i + 1, vs, ins, a, by omega, by go_num, rel_same ha4, S2.out.below ⟨rfl, rfl, rfl, Nat.le_refl _, fun _ _ => rfl⟩⟩
      · have HB7 := Lib.hid S.out.hb
        clear S
        go_wp2_with (go_at_call 46; refine (alive10 _).mono ?_; rintro e w8 ⟨rfl, hb⟩; have HB := Lib.hid (HB7.out.trans (hb.mono HB7.out.size)); clear hb)
        go_ret
        exact ⟨rfl, HB.out⟩
    · have HB7 := Lib.hid S.out.hb
      clear S
      go_wp2_with (go_at_call 46; refine (alive10 _).mono ?_; rintro e w8 ⟨rfl, hb⟩; have HB := Lib.hid (HB7.out.trans (hb.mono HB7.out.size)); clear hb)
      go_ret
      exact ⟨rfl, HB.out⟩

set_option maxRecDepth 100000 in
theorem open_ops3 {H : Type} {enc : TypeId × Value → H} {w : World} {r : Reach} {b0 base : Nat} {v : Value} {d : DataW H} {ps : List MemPlace}
    (hval : Value.okWide Try.prog w r b0 66 v) (hd : DataW.Trod enc Try.prog w base (fun _ => true) true 66 v d ps) : ∃ L f, SO 3 w v L f :=
  open_so (t := 66) Try.underlying66 Try.underlying75 (by kernel_rfl) (by kernel_rfl) (fun j f hj => by
    rcases j with _ | _ | _ | j
    · simp at hj; rw [← hj]
    · simp at hj; rw [← hj]
    · simp at hj; rw [← hj]
    · simp at hj) (by decide) hval hd

set_option maxRecDepth 100000 in
theorem lifted (os : Os) (started : os.Started) (H : Type) (enc : TypeId × Value → H) :
    ReturnsInHanded {} Try.checked os 10 .any (Rows.laneOrderSpec.pre6 enc Try.prog Try.f10 Rows.laneOrderRow.domain false) (Rows.laneOrderSpec.post enc Try.prog Try.f10 false true false false) := by
  refine returnsInHanded_of_change (C := Try.checked) own started (by kernel_rfl) Try.func10
    (ChangeSpec.witness6 (enc := enc) (C := Try.checked) false ⟨#[], #[.slice none 0 0], []⟩ 8 (by kernel_rfl) (by kernel_rfl) (by kernel_rfl) (by kernel_rfl)) ?_
  intro W base args ds gs before hval0 hW hcnd _
  have hval : ∀ (j : Nat) t v, Try.f10.params[j]? = some t → args[j]? = some v → Value.okWide Try.prog W .any base t v := hval0
  have hW' := hW
  obtain ⟨p, q, hA0, hV, rfl, hfz, hnd⟩ := hW
  have hA : DataW.TrodAll enc Try.prog W 0 (fun _ => true) true Try.f10.params.toList args.toList ds p := hA0
  rw [Try.params10] at hA hval
  obtain ⟨v0, vs0, d0, ds0, p0, q0, hargs, rfl, rfl, h0, r0⟩ := trodAll_cons hA
  obtain ⟨rfl, rfl, rfl⟩ := trodAll_nil r0
  obtain rfl : args = #[v0] := by cases args; simp_all
  obtain ⟨rfl, rfl⟩ := trodVars_none hV
  obtain ⟨L0, f0, s0⟩ := open_ops3 (hval 0 66 v0 rfl rfl) h0
  refine (walk v0 L0 f0 W s0).mono fun e W' ⟨he, hb⟩ => ?_
  subst he
  exact ⟨_, rfl, law_post hW' rfl rfl rfl (by kernel_rfl) hb⟩

/-- The statement. -/
theorem proved : Rows.LaneOrderSaid :=
  OpenClaim.holds_of_wide 10 Try.f10 rfl rfl rfl rfl rfl rfl rfl ⟨rfl, rfl, rfl, rfl, rfl⟩ rfl rfl rfl rfl rfl (by kernel_rfl) Try.func10 (by kernel_rfl)
    (of_decide_eq_true (by kernel_rfl)) (by unfold Func.isWrapper; first | (rw [if_pos (by decide +kernel)]; kernel_rfl) | (rw [if_neg (by decide +kernel)]; exact ⟨rfl, rfl⟩))
    (fun os started H enc _ => lifted os started H enc)
#print axioms proved
end Go.Proofs.Ytfdihgahegfamaa.laneOrder
