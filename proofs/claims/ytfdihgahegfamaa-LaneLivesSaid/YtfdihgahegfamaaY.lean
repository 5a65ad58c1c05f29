/-
  The program's lanes beside the document's: what each call makes of both. Condition: both lie in memory, and have lists.
-/
import Derived.Test.YtfdihgahegfamaaI
import Derived.Deep.RegionHeld
namespace Go.Proofs.Ytfdihgahegfamaa
open Go.RowKit Go.Conc
theorem DL.cells {w : World} {gx n size : Nat} {u : Value} {vs : Nat → Value} {R : Nat → List Int} (h : DL w gx n size u vs R) {k : Nat} (hk : DB gx n u vs k) : ∃ cs t, w.heap[k]? = some (.cells cs t (0, 0)) ∧ (t = 116 ∨ t = 29 ∨ t = 3) := by
  rcases hk with rfl | hk | ⟨j, hj, hk⟩
  · exact ⟨_, _, h.hx, .inl rfl⟩
  · rcases h.hq.2.2 with ⟨rfl, _⟩ | ⟨b, o, cap, cs, rfl, hg, _⟩
    · simp [Value.ownBlock] at hk
    · simp [Value.ownBlock] at hk
      subst hk
      exact ⟨_, _, hg, .inr (.inl rfl)⟩
  · obtain ⟨cs, hc⟩ := own3 (h.hr j hj) hk
    exact ⟨_, _, hc, .inr (.inr rfl)⟩
theorem DL.ne {w : World} {gx n size : Nat} {u : Value} {vs : Nat → Value} {R : Nat → List Int} (h : DL w gx n size u vs R) {k t : Nat} {cs : Array Value} (hk : w.heap[k]? = some (.cells cs t (0, 0))) (h1 : t ≠ 116) (h2 : t ≠ 29) (h3 : t ≠ 3) : ¬ DB gx n u vs k := fun hd => by
  obtain ⟨cs2, t2, h4, h5⟩ := h.cells hd
  rw [hk] at h4
  injection h4 with h4; injection h4 with _ h6
  subst h6
  rcases h5 with h5 | h5 | h5
  · exact h1 h5
  · exact h2 h5
  · exact h3 h5
theorem LN.cs {w : World} {g ga c0 n size : Nat} {Q : List (List Value)} (h : LN 113 111 3 w g ga c0 n size Q) {k : Nat} (hk : CS c0 n k) : ∃ cp b x y z u, w.heap[k]? = some (.chan cp b x y z u) := by
  obtain ⟨h1, h2⟩ := hk
  obtain ⟨i, hi⟩ : ∃ i, k = c0 + i := ⟨k - c0, by omega⟩
  subst hi
  have hl := h.hl
  obtain ⟨b, s, r, h3, _⟩ := h.hc i (Q[i]'(by omega)) (List.getElem?_eq_getElem _)
  exact ⟨_, _, _, _, _, _, h3⟩
theorem LN.top {w : World} {g ga c0 n size : Nat} {Q : List (List Value)} (h : LN 113 111 3 w g ga c0 n size Q) (hn : 1 ≤ n) : c0 + n ≤ w.heap.size := by
  obtain ⟨_, _, _, _, _, _, h2⟩ := h.cs (k := c0 + (n - 1)) ⟨by omega, by omega⟩
  have := (Array.getElem?_eq_some_iff.1 h2).1; omega
theorem LN.bxt {w : World} {g ga c0 n size : Nat} {Q : List (List Value)} (h : LN 113 111 3 w g ga c0 n size Q) {q : Nat} (hq : BX w c0 n q) : ∃ x, w.heap[q]? = some (.cells #[x] 3 (0, 0)) := by
  obtain ⟨i, cp, s, r, j, bf, hi, hh, hj⟩ := hq
  have hl := h.hl
  obtain ⟨bf2, s2, r2, h1, h2, h3, h4⟩ := h.hc i (Q[i]'(by omega)) (List.getElem?_eq_getElem _)
  rw [h1] at hh
  simp only [Option.some.injEq, Obj.chan.injEq] at hh
  obtain ⟨_, rfl, _, _, _, _⟩ := hh
  have hjl : j < (Q[i]'(by omega)).length := by have := (Array.getElem?_eq_some_iff.1 hj).1; omega
  obtain ⟨q2, hq1, hq2⟩ := h4 j _ (List.getElem?_eq_getElem hjl)
  rw [hq1] at hj
  simp at hj
  subst hj
  exact ⟨_, hq2⟩
/-- Both: the program's lanes have A, the document's B. -/
structure J2 (w0 wr : World) (g ga c0 n size gx : Nat) (u : Value) (vs : Nat → Value) (A B : Nat → List Int) : Prop where
  ln : ∃ Q, LN 113 111 3 wr g ga c0 n size Q ∧ ∀ j, j < n → Q[j]? = some ((A j).map (Value.int .i64))
  dl : DL wr gx n size u vs B
  bx : ∀ k, DB gx n u vs k → ¬ BX wr c0 n k
  b0 : w0.heap.size ≤ c0
  b1 : ∀ k, DB gx n u vs k → w0.heap.size ≤ k
  n1 : 1 ≤ n
  hb : Below w0.heap.size w0 wr
section
variable {w0 wr w' : World} {g ga c0 n size gx : Nat} {u : Value} {vs vs' : Nat → Value} {A A' B B' : Nat → List Int}
theorem J2.below (h : J2 w0 wr g ga c0 n size gx u vs A B) (hb : Below wr.heap.size wr w') : J2 w0 w' g ga c0 n size gx u vs A B := by
  obtain ⟨Q, hQ, hq⟩ := h.ln
  exact ⟨⟨Q, hQ.below hb, hq⟩, h.dl.below hb, fun k hk hx => h.bx k hk (bx_mods (S := fun _ => False) (Mods.of_below hb) (fun _ _ => id) (hQ.top h.n1) k hx), h.b0, h.b1, h.n1, h.hb.trans (hb.mono h.hb.size)⟩
theorem J2.off (h : J2 w0 wr g ga c0 n size gx u vs A B) {k : Nat} (hk : DB gx n u vs k) : ¬ CS c0 n k := fun hc => by
  obtain ⟨Q, hQ, _⟩ := h.ln
  obtain ⟨_, _, _, _, _, _, h2⟩ := hQ.cs hc
  obtain ⟨_, _, h3, _⟩ := h.dl.cells hk
  rw [h2] at h3; cases h3
theorem J2.turna (h : J2 w0 wr g ga c0 n size gx u vs A B) (hln : ∃ Q, LN 113 111 3 w' g ga c0 n size Q ∧ ∀ j, j < n → Q[j]? = some ((A' j).map (Value.int .i64))) (hm : Mods (CS c0 n) wr w') (hbx : ∀ q, BX w' c0 n q → BX wr c0 n q ∨ wr.heap.size ≤ q) :
    J2 w0 w' g ga c0 n size gx u vs A' B :=
  ⟨hln, h.dl.mods hm (fun k hk => h.off hk), fun k hk hx => by
    rcases hbx k hx with h1 | h1
    · exact h.bx k hk h1
    · have := h.dl.lt hk; omega, h.b0, h.b1, h.n1, Mods.cs h.hb hm h.hb.size h.b0⟩
theorem J2.turnb (h : J2 w0 wr g ga c0 n size gx u vs A B) (hd : DL w' gx n size u vs' B') (hm : Mods (DB gx n u vs) wr w') (ha : ∀ j, DB gx n u vs' j → DB gx n u vs j ∨ wr.heap.size ≤ j) :
    J2 w0 w' g ga c0 n size gx u vs' A B' := by
  obtain ⟨Q, hQ, hq⟩ := h.ln
  have hcs : ∀ i, i < n → ¬ DB gx n u vs (c0 + i) := fun i hi hd => h.off hd ⟨by omega, by omega⟩
  refine ⟨⟨Q, hQ.mods hm (h.dl.ne hQ.hs (by decide) (by decide) (by decide)) (h.dl.ne hQ.ha (by decide) (by decide) (by decide)) hcs (fun q hb hd => h.bx q hd hb), hq⟩, hd, fun k hk hx => ?_, h.b0, fun k hk => ?_, h.n1, Mods.below h.hb hm h.hb.size h.b1⟩
  · have hx2 := bx_mods hm hcs (hQ.top h.n1) k hx
    rcases ha k hk with h1 | h1
    · exact h.bx k h1 hx2
    · obtain ⟨y, hy⟩ := hQ.bxt hx2
      have := (Array.getElem?_eq_some_iff.1 hy).1; omega
  · rcases ha k hk with h1 | h1
    · exact h.b1 k h1
    · have := h.hb.size; omega
/-- A block of another type stays. -/
theorem J2.kepta (h : J2 w0 wr g ga c0 n size gx u vs A B) {k t : Nat} {cs : Array Value} (hk : wr.heap[k]? = some (.cells cs t (0, 0))) (hm : Mods (CS c0 n) wr w') : w'.heap[k]? = some (.cells cs t (0, 0)) := by
  obtain ⟨Q, hQ, _⟩ := h.ln
  refine (hm.block k (Array.getElem?_eq_some_iff.1 hk).1 (fun hc => ?_)).trans hk
  obtain ⟨_, _, _, _, _, _, h2⟩ := hQ.cs hc
  rw [hk] at h2; cases h2
theorem J2.keptb (h : J2 w0 wr g ga c0 n size gx u vs A B) {k t : Nat} {cs : Array Value} (hk : wr.heap[k]? = some (.cells cs t (0, 0))) (h1 : t ≠ 116) (h2 : t ≠ 29) (h3 : t ≠ 3) (hm : Mods (DB gx n u vs) wr w') : w'.heap[k]? = some (.cells cs t (0, 0)) :=
  (hm.block k (Array.getElem?_eq_some_iff.1 hk).1 (h.dl.ne hk h1 h2 h3)).trans hk
theorem setUpd {Q : List (List Value)} {R : Nat → List Int} (hl : Q.length = n) (hq : ∀ j, j < n → Q[j]? = some ((R j).map (Value.int .i64))) (m : Nat) (hm : m < n) (R' : List Int) : ∀ j, j < n → (Q.set m (R'.map (Value.int .i64)))[j]? = some ((upd R m R' j).map (Value.int .i64)) := fun j hj => by
  by_cases hjm : j = m
  · subst hjm; rw [upd_self, List.getElem?_set_self (by omega)]
  · rw [upd_ne _ _ _ _ hjm, List.getElem?_set_ne (fun e => hjm e.symm)]; exact hq j hj
/-- What Put makes. -/
def plusL (n size : Nat) (A : Nat → List Int) (l x : Int) : Nat → List Int := if 0 ≤ l ∧ l < n ∧ (A l.toNat).length < size then upd A l.toNat (A l.toNat ++ [x]) else A
def codeL (n size : Nat) (A : Nat → List Int) (l : Int) : Int := if 0 ≤ l ∧ l < n then (if (A l.toNat).length < size then 0 else 5) else 1
def PutJ (w0 : World) (g ga c0 n size gx : Nat) (u : Value) (A' B' : Nat → List Int) (cd : Int) (gop : Nat) (cs : Array Value) (e : Ending) (w' : World) : Prop :=
  e = .returned (.int .i64 cd) ∧ w'.heap[gop]? = some (.cells cs 75 (0, 0)) ∧ ∃ vs', J2 w0 w' g ga c0 n size gx u vs' A' B'
theorem put_ja (h : J2 w0 wr g ga c0 n size gx u vs A B) (l x : Int) {gop : Nat} {cs : Array Value} (hh : wr.heap[gop]? = some (.cells cs 75 (0, 0))) :
    Calls Try.prog 53 #[.pointer (some ⟨g, 0, none⟩), .int .i64 l, .int .i64 x] wr (PutJ w0 g ga c0 n size gx u (plusL n size A l x) B (codeL n size A l) gop cs) := by
  obtain ⟨Q, hQ, hq⟩ := h.ln
  by_cases hl : 0 ≤ l ∧ l < n
  · obtain ⟨k, rfl⟩ : ∃ k : Nat, l = k := ⟨l.toNat, by omega⟩
    have hk : k < n := by omega
    by_cases hr : (A k).length < size
    · refine (putB hQ k _ (hq k hk) (by simpa using hr) x).mono ?_
      rintro e w2 ⟨rfl, hln, hmd, hbx⟩
      refine ⟨by unfold codeL; rw [if_pos hl]; simp [hr], h.kepta hh hmd, vs, ?_⟩
      rw [show plusL n size A k x = upd A k (A k ++ [x]) by unfold plusL; rw [if_pos ⟨hl.1, hl.2, by simpa using hr⟩]; rfl]
      exact h.turna ⟨_, hln, by have := setUpd hQ.hl hq k hk (A k ++ [x]); simpa using this⟩ hmd hbx
    · refine (putL_full hQ k _ (hq k hk) (by simpa using hr) x).mono ?_
      rintro e w2 ⟨rfl, hb⟩
      refine ⟨by unfold codeL; rw [if_pos hl]; simp [hr], (hb.block gop (Array.getElem?_eq_some_iff.1 hh).1).trans hh, vs, ?_⟩
      rw [show plusL n size A k x = A by unfold plusL; rw [if_neg (fun e => hr (by simpa using e.2.2))]]
      exact h.below hb
  · refine (putL_arg hQ h.n1 l hl x).mono ?_
    rintro e w2 ⟨rfl, hb⟩
    refine ⟨by unfold codeL; rw [if_neg hl], (hb.block gop (Array.getElem?_eq_some_iff.1 hh).1).trans hh, vs, ?_⟩
    rw [show plusL n size A l x = A by unfold plusL; rw [if_neg (fun e => hl ⟨e.1, e.2.1⟩)]]
    exact h.below hb
theorem put_jb (h : J2 w0 wr g ga c0 n size gx u vs A B) (h8 : size ≤ 8) (l x : Int) {gop : Nat} {cs : Array Value} (hh : wr.heap[gop]? = some (.cells cs 75 (0, 0))) :
    Calls Try.prog 74 #[.pointer (some ⟨gx, 0, none⟩), .int .i64 l, .int .i64 x] wr (PutJ w0 g ga c0 n size gx u A (plusL n size B l x) (codeL n size B l) gop cs) := by
  by_cases hl : 0 ≤ l ∧ l < n
  · obtain ⟨k, rfl⟩ : ∃ k : Nat, l = k := ⟨l.toNat, by omega⟩
    have hk : k < n := by omega
    by_cases hr : (B k).length < size
    · refine (docPut h.dl k hk hr h8 x).mono ?_
      rintro e w2 ⟨rfl, vs', hd, hm, ha⟩
      refine ⟨by unfold codeL; rw [if_pos hl]; simp [hr], h.keptb hh (by decide) (by decide) (by decide) hm, upd vs k vs', ?_⟩
      rw [show plusL n size B k x = upd B k (B k ++ [x]) by unfold plusL; rw [if_pos ⟨hl.1, hl.2, by simpa using hr⟩]; rfl]
      exact h.turnb hd hm ha
    · refine (docPut_full h.dl k hk (by omega) _).mono ?_
      rintro e w2 ⟨rfl, q, rfl⟩
      refine ⟨by unfold codeL; rw [if_pos hl]; simp [hr], hh, vs, ?_⟩
      rw [show plusL n size B k x = B by unfold plusL; rw [if_neg (fun e => hr (by simpa using e.2.2))]]
      exact h.below ⟨rfl, rfl, rfl, Nat.le_refl _, fun _ _ => rfl⟩
  · refine (docPut_arg h.dl l hl _).mono ?_
    rintro e w2 ⟨rfl, rfl⟩
    refine ⟨by unfold codeL; rw [if_neg hl], hh, vs, ?_⟩
    rw [show plusL n size B l x = B by unfold plusL; rw [if_neg (fun e => hl ⟨e.1, e.2.1⟩)]]
    exact h
end
/-- Both have the same again. -/
def OneJ (w0 : World) (g ga c0 n size gx : Nat) (u : Value) (e : Ending) (w' : World) : Prop :=
  ∃ vs A, e = .returned (.bool true) ∧ J2 w0 w' g ga c0 n size gx u vs A A ∧ ∀ j, j < n → (A j).length ≤ size
end Go.Proofs.Ytfdihgahegfamaa
