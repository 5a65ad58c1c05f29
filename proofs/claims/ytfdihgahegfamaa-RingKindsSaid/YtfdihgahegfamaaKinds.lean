/-
  For every size and every slice of ops the law RingKinds of package casematelaw09 returns true, and the arguments read afterwards as before: a ring of one kind does what a ring of another kind does with what stands for it. Condition: none.
-/
import Derived.Test.YtfdihgahegfamaaK
import Derived.Deep.LoopGhost
namespace Go.Proofs.Ytfdihgahegfamaa.ringKinds
open Go.ChangeShapes Go.WideShapes Go.ChangeAt Go.RowKit Go.Deep
/-- What stands for numbers. -/
def pv (l : List Int) : List Value := l.flatMap (fun v => [.int .i64 v, .int .i64 (-7)])
theorem pv_len (l : List Int) : (pv l).length = l.length * 2 := by
  induction l with
  | nil => rfl
  | cons a l ih => simp only [pv, List.flatMap_cons, List.length_append, List.length_cons, List.length_nil] at ih ⊢; omega
theorem pv_cons (a : Int) (l : List Int) : pv (a :: l) = .int .i64 a :: .int .i64 (-7) :: pv l := rfl
theorem pv_append (a b : List Int) : pv (a ++ b) = pv a ++ pv b := by simp [pv]
theorem pv_take (l : List Int) (k : Nat) : (pv l).take (k * 2) = pv (l.take k) := by
  induction l generalizing k with
  | nil => simp [pv]
  | cons a l ih =>
    rcases k with _ | k
    · simp [pv]
    · rw [List.take_succ_cons, pv_cons, pv_cons, show (k + 1) * 2 = k * 2 + 1 + 1 by omega, List.take_succ_cons, List.take_succ_cons, ih]
theorem pv_drop (l : List Int) (k : Nat) : (pv l).drop (k * 2) = pv (l.drop k) := by
  induction l generalizing k with
  | nil => simp [pv]
  | cons a l ih =>
    rcases k with _ | k
    · simp
    · rw [List.drop_succ_cons, pv_cons, show (k + 1) * 2 = k * 2 + 1 + 1 by omega, List.drop_succ_cons, List.drop_succ_cons, ih]
theorem pv_at (l : List Int) (k : Nat) (x : Int) (h : l[k]? = some x) : (pv l)[k * 2]? = some (.int .i64 x) ∧ (pv l)[k * 2 + 1]? = some (.int .i64 (-7)) := by
  induction l generalizing k with
  | nil => simp at h
  | cons a l ih =>
    rcases k with _ | k
    · simp at h; subst h; exact ⟨rfl, rfl⟩
    · rw [List.getElem?_cons_succ] at h
      obtain ⟨h1, h2⟩ := ih k h
      rw [pv_cons, show (k + 1) * 2 = k * 2 + 1 + 1 by omega]
      simpa using ⟨h1, h2⟩
/-- A ring of ints, and one of what stands for them. -/
structure Kin (w0 wr : World) (g gx N : Nat) (v u : Value) (A B : List Int) : Prop where
  ra : RG 97 3 1 wr g N v A.length (A.map (Value.int .i64))
  rb : RG 104 56 2 wr gx N u B.length (pv B)
  hg : w0.heap.size ≤ g
  hx : w0.heap.size ≤ gx
  hv : ∀ k, v.ownBlock = some k → w0.heap.size ≤ k
  hu : ∀ k, u.ownBlock = some k → w0.heap.size ≤ k
  hb : Below w0.heap.size w0 wr
section
variable {w0 wr w' : World} {g gx N : Nat} {u v : Value} {A B : List Int}
theorem Kin.ne (h : Kin w0 wr g gx N v u A B) : g ≠ gx := fun e => by
  have h1 := h.ra.1
  have h2 := h.rb.1
  rw [e, h2] at h1
  injection h1 with h1; injection h1 with _ ht
  exact absurd ht (by decide)
theorem own_ne {w : World} {e e' sz sz' n n' : Nat} {v v' : Value} {xs xs' : List Value} (h : Rw w e sz v n xs) (h' : Rw w e' sz' v' n' xs') (hne : e ≠ e') {k : Nat} (hk : v.ownBlock = some k) (hk' : v'.ownBlock = some k) : False := by
  rcases h'.2.2 with ⟨rfl, _⟩ | ⟨b, o, cap, cs, rfl, hg, _⟩
  · simp [Value.ownBlock] at hk'
  · simp [Value.ownBlock] at hk'
    subst hk'
    exact h.ty hg hne hk
theorem Kin.offb (h : Kin w0 wr g gx N v u A B) : ¬ Ft g v gx ∧ ∀ k, u.ownBlock = some k → ¬ Ft g v k := by
  refine ⟨fun hf => ?_, fun k hk hf => ?_⟩
  · rcases hf with hf | hf
    · exact h.ne hf.symm
    · exact h.ra.2.ty h.rb.1 (by decide) hf
  · rcases hf with rfl | hf
    · exact h.rb.2.ty h.ra.1 (by decide) hk
    · exact own_ne h.ra.2 h.rb.2 (by decide) hf hk
theorem Kin.offa (h : Kin w0 wr g gx N v u A B) : ¬ Ft gx u g ∧ ∀ k, v.ownBlock = some k → ¬ Ft gx u k := by
  refine ⟨fun hf => ?_, fun k hk hf => ?_⟩
  · rcases hf with hf | hf
    · exact h.ne hf
    · exact h.rb.2.ty h.ra.1 (by decide) hf
  · rcases hf with rfl | hf
    · exact h.ra.2.ty h.rb.1 (by decide) hk
    · exact own_ne h.ra.2 h.rb.2 (by decide) hk hf
theorem Kin.turna (h : Kin w0 wr g gx N v u A B) {v' : Value} {A' : List Int} (hr : RG 97 3 1 w' g N v' A'.length (A'.map (Value.int .i64))) (hm : Mods (Ft g v) wr w') (ha : Anew wr v v') : Kin w0 w' g gx N v' u A' B where
  ra := hr
  rb := h.rb.mods hm h.offb.1 h.offb.2
  hg := h.hg
  hx := h.hx
  hv := ha.own h.hv h.hb.size
  hu := h.hu
  hb := Mods.ft h.hb hm h.hb.size h.hg h.hv
theorem Kin.turnb (h : Kin w0 wr g gx N v u A B) {u' : Value} {B' : List Int} (hr : RG 104 56 2 w' gx N u' B'.length (pv B')) (hm : Mods (Ft gx u) wr w') (ha : Anew wr u u') : Kin w0 w' g gx N v u' A B' where
  ra := h.ra.mods hm h.offa.1 h.offa.2
  rb := hr
  hg := h.hg
  hx := h.hx
  hv := h.hv
  hu := ha.own h.hu h.hb.size
  hb := Mods.ft h.hb hm h.hb.size h.hx h.hu
theorem Kin.below (h : Kin w0 wr g gx N v u A B) (hb : Below wr.heap.size wr w') : Kin w0 w' g gx N v u A B where
  ra := h.ra.below hb
  rb := h.rb.below hb
  hg := h.hg
  hx := h.hx
  hv := h.hv
  hu := h.hu
  hb := h.hb.trans (hb.mono h.hb.size)
/-- The variable y of a round. -/
def Yv (w : World) (gy : Nat) (x y : Int) : Prop := w.heap[gy]? = some (.cells #[.int .i64 x, .int .i64 y] 56 (0, 0))
/-- y lies behind all that the rings have. -/
structure KY (w0 wr : World) (g gx N : Nat) (v u : Value) (A B : List Int) (gy : Nat) (x y : Int) : Prop where
  k : Kin w0 wr g gx N v u A B
  y : Yv wr gy x y
  fr : ∀ j, u.ownBlock = some j → j ≠ gy
variable {gy : Nat} {x y : Int}
theorem KY.below (h : KY w0 wr g gx N v u A B gy x y) (hb : Below wr.heap.size wr w') : KY w0 w' g gx N v u A B gy x y :=
  ⟨h.k.below hb, (hb.block gy (Array.getElem?_eq_some_iff.1 h.y).1).trans h.y, h.fr⟩
theorem KY.turna (h : KY w0 wr g gx N v u A B gy x y) {v' : Value} {A' : List Int} (hr : RG 97 3 1 w' g N v' A'.length (A'.map (Value.int .i64))) (hm : Mods (Ft g v) wr w') (ha : Anew wr v v') : KY w0 w' g gx N v' u A' B gy x y :=
  ⟨h.k.turna hr hm ha, kept_other h.k.ra h.y (by decide) (by decide) hm, h.fr⟩
theorem KY.turnb (h : KY w0 wr g gx N v u A B gy x y) {u' : Value} {B' : List Int} (hr : RG 104 56 2 w' gx N u' B'.length (pv B')) (hm : Mods (Ft gx u) wr w') (ha : Anew wr u u') : KY w0 w' g gx N v u' A B' gy x y :=
  ⟨h.k.turnb hr hm ha, (hm.block gy (Array.getElem?_eq_some_iff.1 h.y).1 (fun e => by
    rcases e with e | e
    · have h1 := h.k.rb.1
      rw [← e, h.y] at h1
      injection h1 with h1; injection h1 with _ ht
      exact absurd ht (by decide)
    · exact h.fr _ e rfl)).trans h.y, fun j hj e => by
    rcases ha j hj with h1 | h1
    · exact h.fr j h1 e
    · have := (Array.getElem?_eq_some_iff.1 h.y).1; omega⟩
theorem KY.store (h : KY w0 wr g gx N v u A B gy x y) (hy : w0.heap.size ≤ gy) (x' y' : Int) : KY w0 ((wr.setCell ⟨gy, 0, none⟩ (.int .i64 x')).setCell ⟨gy, 1, none⟩ (.int .i64 y')) g gx N v u A B gy x' y' := by
  have hm : Mods (fun k => k = gy) wr ((wr.setCell ⟨gy, 0, none⟩ (.int .i64 x')).setCell ⟨gy, 1, none⟩ (.int .i64 y')) :=
    (Mods.set (S := fun k => k = gy) _ ⟨gy, 0, none⟩ _ rfl).trans (Mods.set (S := fun k => k = gy) _ ⟨gy, 1, none⟩ _ rfl) (fun _ h => .inl h)
  have tyne : ∀ {T : Nat} {g : Nat} {c : Array Value}, wr.heap[g]? = some (.cells c T (0, 0)) → T ≠ 56 → ¬ g = gy := fun hh hT e => by
    rw [e, h.y] at hh
    injection hh with hh; injection hh with _ ht
    exact hT ht.symm
  refine ⟨⟨h.k.ra.mods hm (tyne h.k.ra.1 (by decide)) (fun k hk e => ?_), h.k.rb.mods hm (tyne h.k.rb.1 (by decide)) (fun k hk e => h.fr k hk e), h.k.hg, h.k.hx, h.k.hv, h.k.hu, Mods.below h.k.hb hm h.k.hb.size (fun b hb => by omega)⟩, ?_, h.fr⟩
  · subst e; exact h.k.ra.2.ty h.y (by decide) hk
  · have := h.y
    unfold Yv at this ⊢
    simp [World.setCell, Array.getElem?_modify, this]
end

section
variable {w0 wr : World} {g gx N : Nat} {u v : Value} {A B : List Int} {gy : Nat} {x y : Int}
def PA (w0 : World) (g gx N : Nat) (u : Value) (A' B : List Int) (gy : Nat) (x y : Int) (b : Bool) (e : Ending) (w' : World) : Prop := ∃ v', e = .returned (.bool b) ∧ KY w0 w' g gx N v' u A' B gy x y
def PB (w0 : World) (g gx N : Nat) (v : Value) (A B' : List Int) (gy : Nat) (x y : Int) (b : Bool) (e : Ending) (w' : World) : Prop := ∃ u', e = .returned (.bool b) ∧ KY w0 w' g gx N v u' A B' gy x y
theorem pushA (h : KY w0 wr g gx N v u A B gy x y) (hN : N ≤ 65536) (z : Int) : Calls Try.prog 26 #[.pointer (some ⟨g, 0, none⟩), .int .i64 z] wr (PA w0 g gx N u (plus N A z) B gy x y (decide (A.length < N))) := by
  by_cases hn : A.length < N
  · refine (pushI h.k.ra hn hN z).mono ?_
    rintro e w1 ⟨v1, rfl, hr, hm, ha⟩
    refine ⟨v1, by simp [hn], ?_⟩
    rw [plus, if_pos hn]
    exact h.turna (by simpa using hr) hm ha
  · refine (pushI_no h.k.ra (by omega) _).mono ?_
    rintro e w1 ⟨rfl, rfl⟩
    exact ⟨v, by simp [hn], by rw [plus, if_neg hn]; exact h⟩
theorem pushB (h : KY w0 wr g gx N v u A B gy x y) (hN : N ≤ 65536) (z : Int) : Calls Try.prog 29 #[.pointer (some ⟨gx, 0, none⟩), .agg #[.int .i64 z, .int .i64 (-7)]] wr (PB w0 g gx N v A (plus N B z) gy x y (decide (B.length < N))) := by
  by_cases hn : B.length < N
  · refine (pushK h.k.rb hn hN z (-7)).mono ?_
    rintro e w1 ⟨v1, rfl, hr, hm, ha⟩
    refine ⟨v1, by simp [hn], ?_⟩
    rw [plus, if_pos hn]
    exact h.turnb (by rw [pv_append]; simpa [pv] using hr) hm ha
  · refine (pushK_no h.k.rb (by omega) _ _).mono ?_
    rintro e w1 ⟨rfl, hb⟩
    exact ⟨u, by simp [hn], by rw [plus, if_neg hn]; exact h.below hb⟩
/-- Is there such a place? -/
def inA (A : List Int) (i : Int) : Bool := decide (0 ≤ i ∧ i < A.length)
theorem dropA (h : KY w0 wr g gx N v u A B gy x y) (hN : A.length ≤ 65536) (i : Int) : Calls Try.prog 33 #[.pointer (some ⟨g, 0, none⟩), .int .i64 i] wr (PA w0 g gx N u (less A i) B gy x y (inA A i)) := by
  by_cases hn : 0 ≤ i ∧ i < A.length
  · obtain ⟨k, rfl⟩ : ∃ k : Nat, i = k := ⟨i.toNat, by omega⟩
    obtain ⟨l1, l2⟩ := less_at (A := A) (k := k) (by omega)
    refine (dropI h.k.ra k (by omega) (by omega)).mono ?_
    rintro e w1 ⟨v1, rfl, hr, hm, ha⟩
    rw [l1, l2] at hr
    exact ⟨v1, by simp only [inA, hn]; rfl, h.turna hr hm ha⟩
  · refine (dropI_no h.k.ra i hn).mono ?_
    rintro e w1 ⟨rfl, rfl⟩
    exact ⟨v, by simp only [inA, hn, decide_false], by rw [less, if_neg hn]; exact h⟩
theorem dropB (h : KY w0 wr g gx N v u A B gy x y) (hN : B.length ≤ 65536) (i : Int) : Calls Try.prog 34 #[.pointer (some ⟨gx, 0, none⟩), .int .i64 i] wr (PB w0 g gx N v A (less B i) gy x y (inA B i)) := by
  by_cases hn : 0 ≤ i ∧ i < B.length
  · obtain ⟨k, rfl⟩ : ∃ k : Nat, i = k := ⟨i.toNat, by omega⟩
    have l2 : B.length - 1 = (less B (k : Int)).length := (less_at (A := B) (k := k) (by omega)).2
    have l1 : (pv B).take (k * 2) ++ (pv B).drop ((k + 1) * 2) = pv (less B (k : Int)) := by
      rw [pv_take, pv_drop, ← pv_append]
      unfold less
      rw [if_pos hn]
      simp
    refine (dropK h.k.rb k (by omega) (by omega)).mono ?_
    rintro e w1 ⟨v1, rfl, hr, hm, ha⟩
    rw [l1, l2] at hr
    exact ⟨v1, by simp only [inA, hn]; rfl, h.turnb hr hm ha⟩
  · refine (dropK_no h.k.rb i hn).mono ?_
    rintro e w1 ⟨rfl, rfl⟩
    exact ⟨u, by simp only [inA, hn, decide_false], by rw [less, if_neg hn]; exact h⟩
end
theorem walk_out (n : Int) (x : Option Addr) (l c : Nat) (hl : l ≤ 9223372036854775807) (hg : n < 1 ∨ 50 < n) (w : World) :
    Calls Try.prog 6 #[.int .i64 n, .slice x l c] w fun e w' => e = .returned (.bool true) ∧ Below w.heap.size w w' := by
  by_cases h1 : n < 1
  · clear hg
    go_enter Try.func6, Try.ntmps6
    go_wp2_with (go_at_call 12; refine (alive _).mono ?_; rintro e w1 ⟨rfl, hb⟩; have HB := Lib.hid hb; clear hb)
    go_ret
    exact ⟨rfl, HB.out⟩
  · have h2 : 50 < n := by omega
    clear hg
    go_enter Try.func6, Try.ntmps6
    go_wp2_with (go_at_call 12; refine (alive _).mono ?_; rintro e w1 ⟨rfl, hb⟩; have HB := Lib.hid hb; clear hb)
    go_ret
    exact ⟨rfl, HB.out⟩

set_option maxRecDepth 100000 in
set_option maxHeartbeats 16000000 in
theorem walk_in (N : Nat) (hN1 : 1 ≤ N) (hN2 : N ≤ 50) (lv : Value) (L : Nat) (f : Nat → Nat → Int) (w : World) (h : SO 2 w lv L f) :
    Calls Try.prog 6 #[.int .i64 N, lv] w fun e w' => e = .returned (.bool true) ∧ Below w.heap.size w w' := by
  obtain ⟨x, c, rfl, hx1, hx2, hx3⟩ := h
  unfold maxLen at hx2
  have X := Lib.hid hx3
  clear hx3
  go_enter Try.func6, Try.ntmps6
  go_wp2_with fail
  refine (newI N hN1 (by omega) w).mono ?_
  rintro e w1 ⟨rfl, hw1⟩
  have HW1 := Lib.hid hw1
  clear hw1
  go_wp2_with fail
  refine (newK N hN1 (by omega) w1).mono ?_
  rintro e w2 ⟨rfl, hw2⟩
  have S0 : Hid (Kin w w2 w.heap.size w1.heap.size N (.slice none 0 0) (.slice none 0 0) [] []) := by
    show Kin _ _ _ _ _ _ _ _ _
    have hb1 : Below w.heap.size w w1 := by rw [HW1.out]; exact (Below.refl _ _).alloc (Nat.le_refl _) _
    have hra : RG 97 3 1 w1 w.heap.size N (.slice none 0 0) 0 [] := by rw [HW1.out]; exact RG.new w N
    rw [hw2]
    exact ⟨hra.below ((Below.refl _ _).alloc (Nat.le_refl _) _), RG.new w1 N, Nat.le_refl _, hb1.size, fun k hk => by simp [Value.ownBlock] at hk, fun k hk => by simp [Value.ownBlock] at hk, hb1.alloc hb1.size _⟩
  clear hw2
  go_wp2_with fail
  obtain ⟨g, hg⟩ : ∃ g, g = w.heap.size := ⟨_, rfl⟩
  obtain ⟨gx, hgx⟩ : ∃ g, g = w1.heap.size := ⟨_, rfl⟩
  rw [← hg, ← hgx] at S0 ⊢
  clear hgx HW1
  have HG := Lib.hid hg
  clear hg
  go_loopg [9] (min L 150) (fun r vi wr => ∃ (i : Nat) (v u : Value) (A : List Int), r + i = min L 150 ∧ vi = .int .i64 i ∧ A.length ≤ N ∧ Kin w wr g gx N v u A A)
  case atStart => exact ⟨0, _, _, [], by omega, rfl, by simp, S0.out⟩
  case round =>
    clear S0
    obtain ⟨i, v, u, A, hr, rfl, hA, hs⟩ := hrel
    have S := Lib.hid hs
    clear hs
    by_cases hlt : i < L
    · by_cases h200 : i < 150
      · obtain ⟨p0, p1, b, o, rfl, hb1, hc0⟩ := X.out i 0 hlt (by omega)
        obtain ⟨p2, p3, b', o', he, _, hc1⟩ := X.out i 1 hlt (by omega)
        simp only [Option.some.injEq, Addr.mk.injEq] at he
        obtain ⟨rfl, rfl, _⟩ := he
        rw [Nat.add_zero] at hc0
        obtain ⟨gy, hgyd⟩ : ∃ gy, gy = wr.heap.size := ⟨_, rfl⟩
        obtain ⟨wy, hwy⟩ : ∃ wy, wy = wr.alloc (.cells #[.int .i64 0, .int .i64 0] 56) := ⟨_, rfl⟩
        have hgy : w.heap.size ≤ gy := by have := S.out.hb.size; omega
        have hk1 : KY w wy g gx N v u A A gy 0 0 := by
          refine ⟨by rw [hwy]; exact S.out.below (alloc_below wr _), by rw [hwy, hgyd]; exact heap_alloc_new _ _, fun j hj e => ?_⟩
          have := S.out.rb.2.lt j hj; omega
        have hd1 : wr.cell? ⟨b, o + i * 2 + 1, none⟩ = some (.int .i64 (f i 1)) := by rw [Nat.add_assoc]; exact (S.out.hb.cell (p := ⟨b, o + (i * 2 + 1), none⟩) hb1).trans hc1
        have hd0 : wr.cell? ⟨b, o + i * 2, none⟩ = some (.int .i64 (f i 0)) := (S.out.hb.cell (p := ⟨b, o + i * 2, none⟩) hb1).trans hc0
        have hd2 : wy.cell? ⟨b, o + i * 2, none⟩ = some (.int .i64 (f i 0)) := (hk1.k.hb.cell (p := ⟨b, o + i * 2, none⟩) hb1).trans hc0
        rw [hwy] at hd2
        generalize f i 0 = kd at *
        generalize f i 1 = xx at *
        clear hc0 hc1
        have HGY := Lib.hid hgyd
        have HWY := Lib.hid hwy
        have HK1 := Lib.hid hk1
        clear hgyd hwy hk1
        by_cases e0 : kd = 0
        · subst e0
          clear S
          go_wp2_with fail
          rw [← HWY.out, ← HGY.out]
          have hk1 := HK1.out
          clear HK1 hd0 hd1 hd2
          refine (pushA hk1 (by omega) xx).mono ?_
          rintro e w5 ⟨v5, rfl, ht5⟩
          clear hk1
          go_wp2_with fail
          refine (pushB ht5 (by omega) xx).mono ?_
          rintro e w9 ⟨u9, rfl, ht9⟩
          clear ht5
          generalize decide (A.length < N) = bb
          cases bb
          all_goals
            have hy9 := ht9.y
            have y0 : w9.cell? ⟨gy, 0, none⟩ = some (.int .i64 (0)) := by rw [cell_of_row _ _ _ _ _ _ hy9]; rfl
            have T9 := Lib.hid ht9
            clear ht9 hy9
            go_wp2_with (first | (go_at_call 15; refine (lenI T9.out.k.ra).mono ?_; rintro e w' ⟨rfl, rfl⟩) | (go_at_call 35; refine (lenK T9.out.k.rb).mono ?_; rintro e w' ⟨rfl, rfl⟩))
            go_roundg (min L 150 - (i + 1))
            case measure => omega
            case rel => exact ⟨i + 1, _, _, plus N A xx, by omega, by go_num, plus_len hA xx, T9.out.k⟩
        have e0' : (kd == 0) = false := by simpa using e0
        clear e0
        by_cases e0 : kd = 1
        · subst e0
          clear S
          go_wp2_with fail
          rw [← HWY.out, ← HGY.out]
          have hk1 := HK1.out
          clear HK1 hd0 hd1 hd2
          by_cases hE : A.length = 0
          · obtain rfl : A = [] := List.eq_nil_of_length_eq_zero hE
            refine (popI_no hk1.k.ra).mono ?_
            rintro e w5 ⟨rfl, hb⟩
            have ht5 := hk1.below hb
            clear hk1 hb hE
            go_wp2_with fail
            refine (popK_no ht5.k.rb).mono ?_
            rintro e w6 ⟨rfl, hb⟩
            have ht6 := ht5.below hb
            have ht9 := ht6.store hgy 0 0
            have hy6 := ht6.y
            have z0 : w6.cell? ⟨gy, 0, none⟩ = some (.int .i64 0) := by rw [cell_of_row _ _ _ _ _ _ hy6]; rfl
            have z1 : w6.cell? ⟨gy, 1, none⟩ = some (.int .i64 0) := by rw [cell_of_row _ _ _ _ _ _ hy6]; rfl
            have z2 : w6.frozen? ⟨gy, 0, none⟩ = false := by simp [World.frozen?, show w6.heap[gy]? = _ from hy6]
            have z3 : w6.frozen? ⟨gy, 1, none⟩ = false := by simp [World.frozen?, show w6.heap[gy]? = _ from hy6]
            clear ht5 hb ht6 hy6
            have hy9 := ht9.y
            have y0 : ((w6.setCell ⟨gy, 0, none⟩ (.int .i64 0)).setCell ⟨gy, 1, none⟩ (.int .i64 0)).cell? ⟨gy, 0, none⟩ = some (.int .i64 (0)) := by rw [cell_of_row _ _ _ _ _ _ hy9]; rfl
            have T9 := Lib.hid ht9
            clear ht9 hy9
            go_wp2_with (first | (go_at_call 15; refine (lenI T9.out.k.ra).mono ?_; rintro e w' ⟨rfl, rfl⟩) | (go_at_call 35; refine (lenK T9.out.k.rb).mono ?_; rintro e w' ⟨rfl, rfl⟩))
            go_roundg (min L 150 - (i + 1))
            case measure => omega
            case rel => exact ⟨i + 1, _, _, [], by omega, by go_num, by simp, T9.out.k⟩
          · obtain ⟨a0, A', rfl⟩ : ∃ a0 A', A = a0 :: A' := by
              cases A with
              | nil => simp at hE
              | cons a l => exact ⟨a, l, rfl⟩
            refine (popI hk1.k.ra a0 (by simp)).mono ?_
            rintro e w5 ⟨v5, rfl, hr, hm, ha⟩
            have ht5 : KY w w5 g gx N v5 u A' (a0 :: A') gy 0 0 := hk1.turna (by simpa using hr) hm ha
            clear hr hm ha hk1 hE
            go_wp2_with fail
            refine (popK ht5.k.rb a0 (-7) (by simp [pv_cons]) (by simp [pv_cons])).mono ?_
            rintro e w6 ⟨u6, rfl, hr, hm, ha⟩
            have ht6 : KY w w6 g gx N v5 u6 A' A' gy 0 0 := ht5.turnb (by simpa [pv_cons] using hr) hm ha
            have hAl : A'.length ≤ N := by simp at hA; omega
            have ht9 := ht6.store hgy a0 (-7)
            have hy6 := ht6.y
            have z0 : w6.cell? ⟨gy, 0, none⟩ = some (.int .i64 0) := by rw [cell_of_row _ _ _ _ _ _ hy6]; rfl
            have z1 : w6.cell? ⟨gy, 1, none⟩ = some (.int .i64 0) := by rw [cell_of_row _ _ _ _ _ _ hy6]; rfl
            have z2 : w6.frozen? ⟨gy, 0, none⟩ = false := by simp [World.frozen?, show w6.heap[gy]? = _ from hy6]
            have z3 : w6.frozen? ⟨gy, 1, none⟩ = false := by simp [World.frozen?, show w6.heap[gy]? = _ from hy6]
            clear ht5 hr hm ha ht6 hy6
            have hy9 := ht9.y
            have y0 : ((w6.setCell ⟨gy, 0, none⟩ (.int .i64 a0)).setCell ⟨gy, 1, none⟩ (.int .i64 (-7))).cell? ⟨gy, 0, none⟩ = some (.int .i64 (a0)) := by rw [cell_of_row _ _ _ _ _ _ hy9]; rfl
            have T9 := Lib.hid ht9
            clear ht9 hy9
            go_wp2_with (first | (go_at_call 15; refine (lenI T9.out.k.ra).mono ?_; rintro e w' ⟨rfl, rfl⟩) | (go_at_call 35; refine (lenK T9.out.k.rb).mono ?_; rintro e w' ⟨rfl, rfl⟩))
            go_roundg (min L 150 - (i + 1))
            case measure => omega
            case rel => exact ⟨i + 1, _, _, A', by omega, by go_num, hAl, T9.out.k⟩
        have e1' : (kd == 1) = false := by simpa using e0
        clear e0
        by_cases e0 : kd = 2
        · subst e0
          clear S
          go_wp2_with fail
          rw [← HWY.out, ← HGY.out]
          have hk1 := HK1.out
          clear HK1 hd0 hd1 hd2
          by_cases hE : 0 ≤ xx ∧ xx < A.length
          · obtain ⟨k, rfl⟩ : ∃ k : Nat, xx = k := ⟨xx.toNat, by omega⟩
            have hk : A[k]? = some (A[k]'(by omega)) := List.getElem?_eq_getElem (by omega)
            generalize A[k]'(by omega) = z at hk
            obtain ⟨q0, q1⟩ := pv_at A k z hk
            have HK := Lib.hid hk
            clear hE hk
            refine (atI hk1.k.ra k z (by simp [HK.out])).mono ?_
            rintro e w5 ⟨rfl, rfl⟩
            have Q0 := Lib.hid q0
            have Q1 := Lib.hid q1
            have HK1 := Lib.hid hk1
            clear q0 q1 hk1
            go_wp2_with fail
            refine (atK HK1.out.k.rb k z (-7) Q0.out Q1.out).mono ?_
            rintro e w6 ⟨rfl, hb⟩
            have ht6 := HK1.out.below hb
            have ht9 := ht6.store hgy z (-7)
            have hy6 := ht6.y
            have z0 : w6.cell? ⟨gy, 0, none⟩ = some (.int .i64 0) := by rw [cell_of_row _ _ _ _ _ _ hy6]; rfl
            have z1 : w6.cell? ⟨gy, 1, none⟩ = some (.int .i64 0) := by rw [cell_of_row _ _ _ _ _ _ hy6]; rfl
            have z2 : w6.frozen? ⟨gy, 0, none⟩ = false := by simp [World.frozen?, show w6.heap[gy]? = _ from hy6]
            have z3 : w6.frozen? ⟨gy, 1, none⟩ = false := by simp [World.frozen?, show w6.heap[gy]? = _ from hy6]
            clear hb ht6 hy6 HK1
            have hy9 := ht9.y
            have y0 : ((w6.setCell ⟨gy, 0, none⟩ (.int .i64 z)).setCell ⟨gy, 1, none⟩ (.int .i64 (-7))).cell? ⟨gy, 0, none⟩ = some (.int .i64 (z)) := by rw [cell_of_row _ _ _ _ _ _ hy9]; rfl
            have T9 := Lib.hid ht9
            clear ht9 hy9
            go_wp2_with (first | (go_at_call 15; refine (lenI T9.out.k.ra).mono ?_; rintro e w' ⟨rfl, rfl⟩) | (go_at_call 35; refine (lenK T9.out.k.rb).mono ?_; rintro e w' ⟨rfl, rfl⟩))
            go_roundg (min L 150 - (i + 1))
            case measure => omega
            case rel => exact ⟨i + 1, _, _, A, by omega, by go_num, hA, T9.out.k⟩
          · refine (atI_no hk1.k.ra xx hE).mono ?_
            rintro e w5 ⟨rfl, hb⟩
            have ht5 := hk1.below hb
            have HE := Lib.hid hE
            clear hk1 hb hE
            go_wp2_with fail
            refine (atK_no ht5.k.rb xx HE.out).mono ?_
            rintro e w6 ⟨rfl, hb⟩
            have ht6 := ht5.below hb
            have ht9 := ht6.store hgy 0 0
            have hy6 := ht6.y
            have z0 : w6.cell? ⟨gy, 0, none⟩ = some (.int .i64 0) := by rw [cell_of_row _ _ _ _ _ _ hy6]; rfl
            have z1 : w6.cell? ⟨gy, 1, none⟩ = some (.int .i64 0) := by rw [cell_of_row _ _ _ _ _ _ hy6]; rfl
            have z2 : w6.frozen? ⟨gy, 0, none⟩ = false := by simp [World.frozen?, show w6.heap[gy]? = _ from hy6]
            have z3 : w6.frozen? ⟨gy, 1, none⟩ = false := by simp [World.frozen?, show w6.heap[gy]? = _ from hy6]
            clear ht5 hb ht6 hy6
            have hy9 := ht9.y
            have y0 : ((w6.setCell ⟨gy, 0, none⟩ (.int .i64 0)).setCell ⟨gy, 1, none⟩ (.int .i64 0)).cell? ⟨gy, 0, none⟩ = some (.int .i64 (0)) := by rw [cell_of_row _ _ _ _ _ _ hy9]; rfl
            have T9 := Lib.hid ht9
            clear ht9 hy9
            go_wp2_with (first | (go_at_call 15; refine (lenI T9.out.k.ra).mono ?_; rintro e w' ⟨rfl, rfl⟩) | (go_at_call 35; refine (lenK T9.out.k.rb).mono ?_; rintro e w' ⟨rfl, rfl⟩))
            go_roundg (min L 150 - (i + 1))
            case measure => omega
            case rel => exact ⟨i + 1, _, _, A, by omega, by go_num, hA, T9.out.k⟩
        have e2' : (kd == 2) = false := by simpa using e0
        clear e0
        by_cases e0 : kd = 3
        · subst e0
          clear S
          go_wp2_with fail
          rw [← HWY.out, ← HGY.out]
          have hk1 := HK1.out
          clear HK1 hd0 hd1 hd2
          refine (dropA hk1 (by omega) xx).mono ?_
          rintro e w5 ⟨v5, rfl, ht5⟩
          clear hk1
          go_wp2_with fail
          refine (dropB ht5 (by omega) xx).mono ?_
          rintro e w9 ⟨u9, rfl, ht9⟩
          clear ht5
          generalize inA A xx = bb
          cases bb
          all_goals
            have hy9 := ht9.y
            have y0 : w9.cell? ⟨gy, 0, none⟩ = some (.int .i64 (0)) := by rw [cell_of_row _ _ _ _ _ _ hy9]; rfl
            have T9 := Lib.hid ht9
            clear ht9 hy9
            go_wp2_with (first | (go_at_call 15; refine (lenI T9.out.k.ra).mono ?_; rintro e w' ⟨rfl, rfl⟩) | (go_at_call 35; refine (lenK T9.out.k.rb).mono ?_; rintro e w' ⟨rfl, rfl⟩))
            go_roundg (min L 150 - (i + 1))
            case measure => omega
            case rel => exact ⟨i + 1, _, _, less A xx, by omega, by go_num, less_len hA xx, T9.out.k⟩
        have e3' : (kd == 3) = false := by simpa using e0
        clear e0
        clear S
        have hy9 := HK1.out.y
        have y0 : wy.cell? ⟨gy, 0, none⟩ = some (.int .i64 0) := by rw [cell_of_row _ _ _ _ _ _ hy9]; rfl
        have y1 : (wr.alloc (.cells #[.int .i64 0, .int .i64 0] 56)).cell? ⟨wr.heap.size, 0, none⟩ = some (.int .i64 0) := by rw [cell_of_row _ _ _ _ _ _ (heap_alloc_new _ _)]; rfl
        clear hy9 y0
        go_wp2_with (first | (go_at_call 15; rw [← HWY.out]; refine (lenI HK1.out.k.ra).mono ?_; rintro e w' ⟨rfl, rfl⟩) | (go_at_call 35; refine (lenK HK1.out.k.rb).mono ?_; rintro e w' ⟨rfl, rfl⟩))
        go_roundg (min L 150 - (i + 1))
        case measure => omega
        case rel => exact ⟨i + 1, _, _, A, by omega, by go_num, hA, HK1.out.k⟩
      · have HB7 := Lib.hid S.out.hb
        clear S
        go_wp2_with (go_at_call 12; refine (alive _).mono ?_; rintro e w8 ⟨rfl, hb⟩; have HB := Lib.hid (HB7.out.trans (hb.mono HB7.out.size)); clear hb)
        go_ret
        exact ⟨rfl, HB.out⟩
    · have HB7 := Lib.hid S.out.hb
      clear S
      go_wp2_with (go_at_call 12; refine (alive _).mono ?_; rintro e w8 ⟨rfl, hb⟩; have HB := Lib.hid (HB7.out.trans (hb.mono HB7.out.size)); clear hb)
      go_ret
      exact ⟨rfl, HB.out⟩

theorem walk (n : Int) (lv : Value) (L : Nat) (f : Nat → Nat → Int) (w : World) (h : SO 2 w lv L f) :
    Calls Try.prog 6 #[.int .i64 n, lv] w fun e w' => e = .returned (.bool true) ∧ Below w.heap.size w w' := by
  by_cases hg : n < 1 ∨ 50 < n
  · obtain ⟨x, c, rfl, hx1, hx2, hx3⟩ := h
    unfold maxLen at hx2
    exact walk_out n x _ c (by omega) hg w
  · obtain ⟨N, rfl⟩ : ∃ N : Nat, n = N := ⟨n.toNat, by omega⟩
    exact walk_in N (by omega) (by omega) lv L f w h

set_option maxRecDepth 100000 in
theorem open_ops {H : Type} {enc : TypeId × Value → H} {w : World} {r : Reach} {b0 base : Nat} {v : Value} {d : DataW H} {ps : List MemPlace}
    (hval : Value.okWide Try.prog w r b0 22 v) (hd : DataW.Trod enc Try.prog w base (fun _ => true) true 22 v d ps) : ∃ L f, SO 2 w v L f :=
  open_so (t := 22) Try.underlying22 Try.underlying34 (by kernel_rfl) (by kernel_rfl) (fun j f hj => by
    rcases j with _ | _ | j
    · simp at hj; rw [← hj]
    · simp at hj; rw [← hj]
    · simp at hj) (by decide) hval hd

set_option maxRecDepth 100000 in
theorem lifted (os : Os) (started : os.Started) (H : Type) (enc : TypeId × Value → H) :
    ReturnsInHanded {} Try.checked os 6 .any (Rows.ringKindsSpec.pre6 enc Try.prog Try.f6 Rows.ringKindsRow.domain false) (Rows.ringKindsSpec.post enc Try.prog Try.f6 false true false false) := by
  refine returnsInHanded_of_change (C := Try.checked) own started (by kernel_rfl) Try.func6
    (ChangeSpec.witness6 (enc := enc) (C := Try.checked) false ⟨#[], #[.int .i64 0, .slice none 0 0], []⟩ 8 (by kernel_rfl) (by kernel_rfl) (by kernel_rfl) (by kernel_rfl)) ?_
  intro W base args ds gs before hval0 hW hcnd _
  have hval : ∀ (j : Nat) t v, Try.f6.params[j]? = some t → args[j]? = some v → Value.okWide Try.prog W .any base t v := hval0
  have hW' := hW
  obtain ⟨p, q, hA0, hV, rfl, hfz, hnd⟩ := hW
  have hA : DataW.TrodAll enc Try.prog W 0 (fun _ => true) true Try.f6.params.toList args.toList ds p := hA0
  rw [Try.params6] at hA hval
  obtain ⟨v0, vs0, d0, ds0, p0, q0, hargs, rfl, rfl, h0, r0⟩ := trodAll_cons hA
  obtain ⟨v1, vs1, d1, ds1, p1, q1, rfl, rfl, rfl, h1, r1⟩ := trodAll_cons r0
  obtain ⟨rfl, rfl, rfl⟩ := trodAll_nil r1
  obtain rfl : args = #[v0, v1] := by cases args; simp_all
  obtain ⟨rfl, rfl⟩ := trodVars_none hV
  obtain ⟨a0, rfl, rfl, rfl, w0⟩ := open_int Try.underlying3 (hval 0 3 v0 rfl rfl) h0
  have b0 := bounds_i64 w0
  obtain ⟨L1, f1, s1⟩ := open_ops (hval 1 22 v1 rfl rfl) h1
  refine (walk a0 v1 L1 f1 W s1).mono fun e W' ⟨he, hb⟩ => ?_
  subst he
  exact ⟨_, rfl, law_post hW' rfl rfl rfl (by kernel_rfl) hb⟩

/-- The statement. -/
theorem proved : Rows.RingKindsSaid :=
  OpenClaim.holds_of_wide 6 Try.f6 rfl rfl rfl rfl rfl rfl rfl ⟨rfl, rfl, rfl, rfl, rfl⟩ rfl rfl rfl rfl rfl (by kernel_rfl) Try.func6 (by kernel_rfl)
    (of_decide_eq_true (by kernel_rfl)) (by unfold Func.isWrapper; first | (rw [if_pos (by decide +kernel)]; kernel_rfl) | (rw [if_neg (by decide +kernel)]; exact ⟨rfl, rfl⟩))
    (fun os started H enc _ => lifted os started H enc)
#print axioms proved
end Go.Proofs.Ytfdihgahegfamaa.ringKinds
