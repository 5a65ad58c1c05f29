/-
  Contract of package casematelaw09's one: an op of a ring and of the document's ring answers true, and both have the same again. Condition: both lie in memory apart, and have the same.
-/
import Derived.Test.YtfdihgahegfamaaP
import Derived.Deep.RegionHeld
import Derived.Deep.DrawnRows
namespace Go.Proofs.Ytfdihgahegfamaa
open Go.RowKit
set_option maxHeartbeats 400000 in
theorem dropI_no {w : World} {g N n : Nat} {v : Value} {xs : List Value} (h : RG 97 3 1 w g N v n xs) (i : Int) (hi : ¬ (0 ≤ i ∧ i < n)) : Calls Try.prog 33 #[.pointer (some ⟨g, 0, none⟩), .int .i64 i] w fun e w' => e = .returned (.bool false) ∧ w = w' := by
  have H := Lib.hid h
  have hd : decide (0 ≤ i ∧ i < (n : Int)) = false := by simpa using hi
  have HD := Lib.hid hd
  clear h hi hd
  go_enter Try.func33, Try.ntmps33
  go_wp2_with (go_at_call 69; refine (hasI H.out i).mono ?_; rintro e w' ⟨rfl, rfl⟩; rw [HD.out])
  go_ret
  exact ⟨rfl, rfl⟩
set_option maxRecDepth 100000 in
set_option maxHeartbeats 1000000 in
theorem dropI {w : World} {g N n : Nat} {v : Value} {xs : List Value} (h : RG 97 3 1 w g N v n xs) (k : Nat) (hk : k < n) (hn : n ≤ 65536) : Calls Try.prog 33 #[.pointer (some ⟨g, 0, none⟩), .int .i64 k] w (DropP 97 3 1 w g N v (n - 1) (xs.take (k * 1) ++ xs.drop ((k + 1) * 1))) := by
  have H := Lib.hid h
  have hd : decide (0 ≤ (k : Int) ∧ (k : Int) < (n : Int)) = true := by simp; omega
  have HD := Lib.hid hd
  have c1 := h.c1
  clear h hd
  go_enter Try.func33, Try.ntmps33
  go_wp2_with (go_at_call 69; refine (hasI H.out k).mono ?_; rintro e w' ⟨rfl, rfl⟩; rw [HD.out])
  refine (delI H.out.2 hk hn).mono ?_
  rintro e w1 ⟨v1, rfl, hr, hm, ho⟩
  have ha : Anew w v v1 := fun j hj => .inl (by rw [ho] at hj; exact hj)
  obtain ⟨s1, s2, s3, s4⟩ := H.out.store hm hr (by decide) ha
  obtain ⟨y, c, rfl, _, _⟩ := hr.form
  have S3 := Lib.hid s3
  have S4 := Lib.hid s4
  have HA := Lib.hid ha
  clear s3 s4 ha hr hm ho
  go_wp2_with fail
  go_ret
  exact ⟨_, rfl, S3.out, S4.out, HA.out⟩
/-- A ring and the document's ring, apart. -/
structure Two (w0 wr : World) (g gx N : Nat) (v u : Value) (A B : List Int) : Prop where
  ra : RG 97 3 1 wr g N v A.length (A.map (Value.int .i64))
  rb : RG 31 3 1 wr gx N u B.length (B.map (Value.int .i64))
  apart : ∀ k, v.ownBlock = some k → u.ownBlock ≠ some k
  hg : w0.heap.size ≤ g
  hx : w0.heap.size ≤ gx
  hv : ∀ k, v.ownBlock = some k → w0.heap.size ≤ k
  hu : ∀ k, u.ownBlock = some k → w0.heap.size ≤ k
  hb : Below w0.heap.size w0 wr
section
variable {w0 wr w' : World} {g gx N : Nat} {u v : Value} {A B : List Int}
theorem Two.ne (h : Two w0 wr g gx N v u A B) : g ≠ gx := fun e => by
  have h1 := h.ra.1
  have h2 := h.rb.1
  rw [e, h2] at h1
  injection h1 with h1; injection h1 with _ ht
  exact absurd ht (by decide)
theorem Two.offb (h : Two w0 wr g gx N v u A B) : ¬ Ft g v gx ∧ ∀ k, u.ownBlock = some k → ¬ Ft g v k := by
  refine ⟨fun hf => ?_, fun k hk hf => ?_⟩
  · rcases hf with hf | hf
    · exact h.ne hf.symm
    · exact h.ra.2.ty h.rb.1 (by decide) hf
  · rcases hf with rfl | hf
    · exact h.rb.2.ty h.ra.1 (by decide) hk
    · exact h.apart k hf hk
theorem Two.offa (h : Two w0 wr g gx N v u A B) : ¬ Ft gx u g ∧ ∀ k, v.ownBlock = some k → ¬ Ft gx u k := by
  refine ⟨fun hf => ?_, fun k hk hf => ?_⟩
  · rcases hf with hf | hf
    · exact h.ne hf
    · exact h.rb.2.ty h.ra.1 (by decide) hf
  · rcases hf with rfl | hf
    · exact h.ra.2.ty h.rb.1 (by decide) hk
    · exact h.apart k hk hf
theorem Two.turna (h : Two w0 wr g gx N v u A B) {v' : Value} {A' : List Int} (hr : RG 97 3 1 w' g N v' A'.length (A'.map (Value.int .i64))) (hm : Mods (Ft g v) wr w') (ha : Anew wr v v') : Two w0 w' g gx N v' u A' B where
  ra := hr
  rb := h.rb.mods hm h.offb.1 h.offb.2
  apart := fun k hk hk' => by
    rcases ha k hk with h1 | h1
    · exact h.apart k h1 hk'
    · have := h.rb.2.lt k hk'; omega
  hg := h.hg
  hx := h.hx
  hv := ha.own h.hv h.hb.size
  hu := h.hu
  hb := Mods.ft h.hb hm h.hb.size h.hg h.hv
theorem Two.turnb (h : Two w0 wr g gx N v u A B) {u' : Value} {B' : List Int} (hr : RG 31 3 1 w' gx N u' B'.length (B'.map (Value.int .i64))) (hm : Mods (Ft gx u) wr w') (ha : Anew wr u u') : Two w0 w' g gx N v u' A B' where
  ra := h.ra.mods hm h.offa.1 h.offa.2
  rb := hr
  apart := fun k hk hk' => by
    rcases ha k hk' with h1 | h1
    · exact h.apart k hk h1
    · have := h.ra.2.lt k hk; omega
  hg := h.hg
  hx := h.hx
  hv := h.hv
  hu := ha.own h.hu h.hb.size
  hb := Mods.ft h.hb hm h.hb.size h.hx h.hu
theorem Two.below (h : Two w0 wr g gx N v u A B) (hb : Below wr.heap.size wr w') : Two w0 w' g gx N v u A B where
  ra := h.ra.below hb
  rb := h.rb.below hb
  apart := h.apart
  hg := h.hg
  hx := h.hx
  hv := h.hv
  hu := h.hu
  hb := h.hb.trans (hb.mono h.hb.size)
theorem Two.drewN (h : Two w0 wr g gx N v u A B) (q : Nat) : Two w0 (wr.drewN q) g gx N v u A B := h.below ⟨rfl, rfl, rfl, Nat.le_refl _, fun _ _ => rfl⟩
/-- A block of another type stays where a ring is turned. -/
theorem kept_other {T : Nat} {w w1 : World} {v : Value} {n : Nat} {xs : List Value} (h : RG T 3 1 w g N v n xs) {t gop : Nat} {cs : Array Value} (hh : w.heap[gop]? = some (.cells cs t (0, 0))) (ht : t ≠ T) (ht3 : 3 ≠ t) (hm : Mods (Ft g v) w w1) : w1.heap[gop]? = some (.cells cs t (0, 0)) := by
  refine (hm.block gop (Array.getElem?_eq_some_iff.1 hh).1 (fun e => ?_)).trans hh
  rcases e with e | e
  · rw [e, h.1] at hh
    injection hh with hh; injection hh with _ h3
    exact ht h3.symm
  · exact h.2.ty hh ht3 e
end
/-- Both have the same again. -/
def OneP (w0 : World) (g gx N : Nat) (e : Ending) (w' : World) : Prop :=
  ∃ v u A, e = .returned (.bool true) ∧ Two w0 w' g gx N v u A A ∧ A.length ≤ N
section
variable {w0 wr w' : World} {g gx N : Nat} {u v : Value} {A B : List Int}
/-- What each call makes of both. -/
def PushA (w0 : World) (g gx N : Nat) (u : Value) (A' B : List Int) (b : Bool) (t : Nat) (gop : Nat) (cs : Array Value) (e : Ending) (w' : World) : Prop :=
  ∃ v', e = .returned (.bool b) ∧ Two w0 w' g gx N v' u A' B ∧ w'.heap[gop]? = some (.cells cs t (0, 0))
def PushB (w0 : World) (g gx N : Nat) (v : Value) (A B' : List Int) (b : Bool) (t : Nat) (gop : Nat) (cs : Array Value) (e : Ending) (w' : World) : Prop :=
  ∃ u', e = .returned (.bool b) ∧ Two w0 w' g gx N v u' A B' ∧ w'.heap[gop]? = some (.cells cs t (0, 0))
/-- A list with one number more, where there is room. -/
def plus (N : Nat) (A : List Int) (x : Int) : List Int := if A.length < N then A ++ [x] else A
theorem plus_len {N : Nat} {A : List Int} (h : A.length ≤ N) (x : Int) : (plus N A x).length ≤ N := by
  unfold plus; split
  · simp; omega
  · exact h
theorem push_a (h : Two w0 wr g gx N v u A B) (hN : N ≤ 65536) (x : Int) {gop : Nat} {cs : Array Value} (hh : wr.heap[gop]? = some (.cells cs 34 (0, 0))) :
    Calls Try.prog 26 #[.pointer (some ⟨g, 0, none⟩), .int .i64 x] wr (PushA w0 g gx N u (plus N A x) B (decide (A.length < N)) 34 gop cs) := by
  by_cases hn : A.length < N
  · refine (pushI h.ra hn hN x).mono ?_
    rintro e w1 ⟨v1, rfl, hr, hm, ha⟩
    refine ⟨v1, by simp [hn], ?_, kept_other h.ra hh (by decide) (by decide) hm⟩
    rw [plus, if_pos hn]
    exact h.turna (by simpa using hr) hm ha
  · refine (pushI_no h.ra (by omega) _).mono ?_
    rintro e w1 ⟨rfl, rfl⟩
    exact ⟨v, by simp [hn], by rw [plus, if_neg hn]; exact h, hh⟩
theorem push_b (h : Two w0 wr g gx N v u A B) (hN : N ≤ 65536) (x : Int) {gop : Nat} {cs : Array Value} (hh : wr.heap[gop]? = some (.cells cs 34 (0, 0))) :
    Calls Try.prog 58 #[.pointer (some ⟨gx, 0, none⟩), .int .i64 x] wr (PushB w0 g gx N v A (plus N B x) (decide (B.length < N)) 34 gop cs) := by
  by_cases hn : B.length < N
  · refine (refPush h.rb hn hN x).mono ?_
    rintro e w1 ⟨v1, rfl, hr, hm, ha⟩
    refine ⟨v1, by simp [hn], ?_, kept_other h.rb hh (by decide) (by decide) hm⟩
    rw [plus, if_pos hn]
    exact h.turnb (by simpa using hr) hm ha
  · refine (refPush_no h.rb (by omega) _).mono ?_
    rintro e w1 ⟨rfl, q, rfl⟩
    exact ⟨u, by simp [hn], by rw [plus, if_neg hn]; exact h.drewN q, hh⟩
/-- A list without the thing at a place, where there is one. -/
def less (A : List Int) (i : Int) : List Int := if 0 ≤ i ∧ i < A.length then A.take i.toNat ++ A.drop (i.toNat + 1) else A
theorem less_len {N : Nat} {A : List Int} (h : A.length ≤ N) (i : Int) : (less A i).length ≤ N := by
  unfold less; split
  · simp; omega
  · exact h
theorem less_at {A : List Int} {k : Nat} (hk : k < A.length) : (A.map (Value.int .i64)).take (k * 1) ++ (A.map (Value.int .i64)).drop ((k + 1) * 1) = (less A k).map (Value.int .i64) ∧ A.length - 1 = (less A k).length := by
  unfold less
  rw [if_pos ⟨by omega, by omega⟩]
  simp
  omega
theorem drop_a (h : Two w0 wr g gx N v u A B) (hN : A.length ≤ 65536) (i : Int) {gop : Nat} {cs : Array Value} (hh : wr.heap[gop]? = some (.cells cs 34 (0, 0))) :
    Calls Try.prog 33 #[.pointer (some ⟨g, 0, none⟩), .int .i64 i] wr (PushA w0 g gx N u (less A i) B (decide (0 ≤ i ∧ i < A.length)) 34 gop cs) := by
  by_cases hn : 0 ≤ i ∧ i < A.length
  · obtain ⟨k, rfl⟩ : ∃ k : Nat, i = k := ⟨i.toNat, by omega⟩
    obtain ⟨l1, l2⟩ := less_at (A := A) (k := k) (by omega)
    refine (dropI h.ra k (by omega) (by omega)).mono ?_
    rintro e w1 ⟨v1, rfl, hr, hm, ha⟩
    rw [l1, l2] at hr
    exact ⟨v1, by simp only [hn]; rfl, h.turna hr hm ha, kept_other h.ra hh (by decide) (by decide) hm⟩
  · refine (dropI_no h.ra i hn).mono ?_
    rintro e w1 ⟨rfl, rfl⟩
    exact ⟨v, by simp only [hn, decide_false], by rw [less, if_neg hn]; exact h, hh⟩
theorem drop_b (h : Two w0 wr g gx N v u A B) (hN : B.length ≤ 65536) (i : Int) {gop : Nat} {cs : Array Value} (hh : wr.heap[gop]? = some (.cells cs 34 (0, 0))) :
    Calls Try.prog 61 #[.pointer (some ⟨gx, 0, none⟩), .int .i64 i] wr (PushB w0 g gx N v A (less B i) (decide (0 ≤ i ∧ i < B.length)) 34 gop cs) := by
  by_cases hn : 0 ≤ i ∧ i < B.length
  · obtain ⟨k, rfl⟩ : ∃ k : Nat, i = k := ⟨i.toNat, by omega⟩
    obtain ⟨l1, l2⟩ := less_at (A := B) (k := k) (by omega)
    refine (refDrop h.rb k (by omega) (by omega)).mono ?_
    rintro e w1 ⟨v1, rfl, hr, hm, ha⟩
    rw [l1, l2] at hr
    exact ⟨v1, by simp only [hn]; rfl, h.turnb hr hm ha, kept_other h.rb hh (by decide) (by decide) hm⟩
  · refine (refDrop_no h.rb i hn).mono ?_
    rintro e w1 ⟨rfl, rfl⟩
    exact ⟨u, by simp only [hn, decide_false], by rw [less, if_neg hn]; exact h, hh⟩
end
set_option maxRecDepth 100000 in
set_option maxHeartbeats 4000000 in
theorem one0 {w0 w : World} {g gx N : Nat} {v u : Value} {A : List Int} (h : Two w0 w g gx N v u A A) (hA : A.length ≤ N) (hN : N ≤ 65536) (x : Int) (hx0 : -9223372036854775808 ≤ x) (hx1 : x ≤ 9223372036854775807) :
    Calls Try.prog 14 #[.pointer (some ⟨g, 0, none⟩), .pointer (some ⟨gx, 0, none⟩), .agg #[.int .i64 0, .int .i64 x]] w (OneP w0 g gx N) := by
  obtain ⟨w1, hw1⟩ : ∃ w1, w1 = w.alloc (.cells #[.int .i64 0, .int .i64 x] 34) := ⟨_, rfl⟩
  obtain ⟨gop, hgop⟩ : ∃ gop, gop = w.heap.size := ⟨_, rfl⟩
  have hh1 : w1.heap[gop]? = some (.cells #[.int .i64 0, .int .i64 x] 34 (0, 0)) := by rw [hw1, hgop]; exact heap_alloc_new _ _
  have h1 : Two w0 w1 g gx N v u A A := by rw [hw1]; exact h.below ((Below.refl _ _).alloc (Nat.le_refl _) _)
  have H1 := Lib.hid h1
  have HH1 := Lib.hid hh1
  have HW := Lib.hid hw1
  have HG := Lib.hid hgop
  have k0 : w1.cell? ⟨gop, 0, none⟩ = some (.int .i64 0) := by rw [cell_of_row _ _ _ _ _ _ hh1]; rfl
  have k1 : w1.cell? ⟨gop, 1, none⟩ = some (.int .i64 x) := by rw [cell_of_row _ _ _ _ _ _ hh1]; rfl
  clear h h1 hh1 hw1 hgop
  go_enter Try.func14, Try.ntmps14
  go_wp2_with fail
  rw [← HW.out, ← HG.out]
  refine wp_region_held_drew (S := fun W => W.heap[gop]? = some (.cells #[.int .i64 0, .int .i64 x] 34 (0, 0))) (by kernel_rfl) HH1.out (fun hS => ?_)
  clear k0 k1
  have H1d : Hid (Two w0 w1.drew g gx N v u A A) := H1.out.drewN 1
  clear H1
  have H1 := H1d
  clear H1d
  refine' wpAnyH_take (i := 0) ?h1x0 ?hsx0 ?hfx0 ?hrx0 ?hQx0 (Or.inl ⟨?hwx0, ?hyx0⟩) hS ?restx0
  case h1x0 => (simp only [List.getElem?_toArray, List.getElem?_cons_zero]; rfl)
  case hsx0 => kernel_rfl
  case hfx0 => kernel_rfl
  case hrx0 => kernel_rfl
  case hQx0 => exact fun _ _ _ h => h
  case hwx0 => rfl
  case hyx0 =>
    intro W hW
    go_simp
    try with_reducible rfl
  simp only [Act.put, List.setIfInBounds_toArray, List.set_cons_succ, List.set_cons_zero]
  refine' wpAnyH_take (i := 1) ?h1x1 ?hsx1 ?hfx1 ?hrx1 ?hQx1 (Or.inl ⟨?hwx1, ?hyx1⟩) hS ?restx1
  case h1x1 => (simp only [List.getElem?_toArray, List.getElem?_cons_succ, List.getElem?_cons_zero]; rfl)
  case hsx1 => kernel_rfl
  case hfx1 => kernel_rfl
  case hrx1 => kernel_rfl
  case hQx1 => exact fun _ _ _ h => h
  case hwx1 => rfl
  case hyx1 =>
    intro W hW
    go_simp
    try with_reducible rfl
  simp only [Act.put, List.setIfInBounds_toArray, List.set_cons_succ, List.set_cons_zero]
  refine' wpAnyH_take (i := 2) ?h1x2 ?hsx2 ?hfx2 ?hrx2 ?hQx2 (Or.inl ⟨?hwx2, ?hyx2⟩) hS ?restx2
  case h1x2 => (simp only [List.getElem?_toArray, List.getElem?_cons_succ, List.getElem?_cons_zero]; rfl)
  case hsx2 => kernel_rfl
  case hfx2 => kernel_rfl
  case hrx2 => kernel_rfl
  case hQx2 => exact fun _ _ _ h => h
  case hwx2 => rfl
  case hyx2 =>
    intro W hW
    have c1 : W.cell? ⟨gop, 1, none⟩ = some (.int .i64 x) := by rw [cell_of_row _ _ _ _ _ _ hW]; rfl
    go_simp
    try with_reducible rfl
  simp only [Act.put, List.setIfInBounds_toArray, List.set_cons_succ, List.set_cons_zero]
  refine' wpAnyH_take (i := 4) ?h1x4 ?hsx4 ?hfx4 ?hrx4 ?hQx4 (Or.inl ⟨?hwx4, ?hyx4⟩) hS ?restx4
  case h1x4 => (simp only [List.getElem?_toArray, List.getElem?_cons_succ, List.getElem?_cons_zero]; rfl)
  case hsx4 => kernel_rfl
  case hfx4 => kernel_rfl
  case hrx4 => kernel_rfl
  case hQx4 => exact fun _ _ _ h => h
  case hwx4 => rfl
  case hyx4 =>
    intro W hW
    go_simp
    try with_reducible rfl
  simp only [Act.put, List.setIfInBounds_toArray, List.set_cons_succ, List.set_cons_zero]
  refine' wpAnyH_take (i := 5) ?h1x5 ?hsx5 ?hfx5 ?hrx5 ?hQx5 (Or.inl ⟨?hwx5, ?hyx5⟩) hS ?restx5
  case h1x5 => (simp only [List.getElem?_toArray, List.getElem?_cons_succ, List.getElem?_cons_zero]; rfl)
  case hsx5 => kernel_rfl
  case hfx5 => kernel_rfl
  case hrx5 => kernel_rfl
  case hQx5 => exact fun _ _ _ h => h
  case hwx5 => rfl
  case hyx5 =>
    intro W hW
    go_simp
    try with_reducible rfl
  simp only [Act.put, List.setIfInBounds_toArray, List.set_cons_succ, List.set_cons_zero]
  refine' wpAnyH_take (i := 6) ?h1x6 ?hsx6 ?hfx6 ?hrx6 ?hQx6 (Or.inl ⟨?hwx6, ?hyx6⟩) hS ?restx6
  case h1x6 => (simp only [List.getElem?_toArray, List.getElem?_cons_succ, List.getElem?_cons_zero]; rfl)
  case hsx6 => kernel_rfl
  case hfx6 => kernel_rfl
  case hrx6 => kernel_rfl
  case hQx6 => exact fun _ _ _ h => h
  case hwx6 => rfl
  case hyx6 =>
    intro W hW
    have c1 : W.cell? ⟨gop, 1, none⟩ = some (.int .i64 x) := by rw [cell_of_row _ _ _ _ _ _ hW]; rfl
    go_simp
    try with_reducible rfl
  simp only [Act.put, List.setIfInBounds_toArray, List.set_cons_succ, List.set_cons_zero]
  refine wpAnyH_ready (rs := [3]) (by kernel_rfl) (by simp) ?_
  refine' AllReadyH.cons ?hoa (fun K hK => ?sta) AllReadyH.nil
  case hoa => (simp only [List.getElem?_toArray, List.getElem?_cons_succ, List.getElem?_cons_zero]; rfl)
  go_simp
  refine (push_a H1.out hN x hS).mono ?_
  rintro e w2 ⟨v8, rfl, ht8, hh8⟩
  go_wp2_with fail
  refine hK.out _ _ hh8 (fun hHeld => ?_)
  clear hK K
  try simp only [Act.put, List.setIfInBounds_toArray, List.set_cons_succ, List.set_cons_zero]
  clear hHeld
  have hS := hh8
  refine wpAnyH_ready (rs := [7]) (by kernel_rfl) (by simp) ?_
  refine' AllReadyH.cons ?hoc7a (fun K hK => ?stc7a) AllReadyH.nil
  case hoc7a => (simp only [List.getElem?_toArray, List.getElem?_cons_succ, List.getElem?_cons_zero]; rfl)
  go_simp
  refine (push_b ht8 hN x hS).mono ?_
  rintro e w3 ⟨v9, rfl, ht9, hh9⟩
  go_wp2_with fail
  refine hK.out _ _ hh9 (fun hHeld => ?_)
  clear hK K
  try simp only [Act.put, List.setIfInBounds_toArray, List.set_cons_succ, List.set_cons_zero]
  have hS := hHeld
  refine' wpAnyH_take (i := 8) ?h1x8a ?hsx8a ?hfx8a ?hrx8a ?hQx8a (Or.inl ⟨?hwx8a, ?hyx8a⟩) hS ?restx8a
  case h1x8a => (simp only [List.getElem?_toArray, List.getElem?_cons_succ, List.getElem?_cons_zero]; rfl)
  case hsx8a => kernel_rfl
  case hfx8a => kernel_rfl
  case hrx8a => kernel_rfl
  case hQx8a => exact fun _ _ _ h => h
  case hwx8a => rfl
  case hyx8a =>
    intro W hW
    go_simp
    try with_reducible rfl
  simp only [Act.put, List.setIfInBounds_toArray, List.set_cons_succ, List.set_cons_zero]
  refine' wpAnyH_take (i := 9) ?h1x9a ?hsx9a ?hfx9a ?hrx9a ?hQx9a (Or.inl ⟨?hwx9a, ?hyx9a⟩) hS ?restx9a
  case h1x9a => (simp only [List.getElem?_toArray, List.getElem?_cons_succ, List.getElem?_cons_zero]; rfl)
  case hsx9a => kernel_rfl
  case hfx9a => kernel_rfl
  case hrx9a => kernel_rfl
  case hQx9a => exact fun _ _ _ h => h
  case hwx9a => rfl
  case hyx9a =>
    intro W hW
    go_simp
    try with_reducible rfl
  simp only [Act.put, List.setIfInBounds_toArray, List.set_cons_succ, List.set_cons_zero]
  refine wpAnyH_done (by kernel_rfl) ?_ _
  go_wp2_with fail
  go_ret
  exact ⟨_, _, _, by simp, ht9, plus_len hA x⟩
set_option maxRecDepth 100000 in
set_option maxHeartbeats 4000000 in
theorem one3 {w0 w : World} {g gx N : Nat} {v u : Value} {A : List Int} (h : Two w0 w g gx N v u A A) (hA : A.length ≤ N) (hN : N ≤ 65536) (x : Int) (hx0 : -9223372036854775808 ≤ x) (hx1 : x ≤ 9223372036854775807) :
    Calls Try.prog 14 #[.pointer (some ⟨g, 0, none⟩), .pointer (some ⟨gx, 0, none⟩), .agg #[.int .i64 3, .int .i64 x]] w (OneP w0 g gx N) := by
  obtain ⟨w1, hw1⟩ : ∃ w1, w1 = w.alloc (.cells #[.int .i64 3, .int .i64 x] 34) := ⟨_, rfl⟩
  obtain ⟨gop, hgop⟩ : ∃ gop, gop = w.heap.size := ⟨_, rfl⟩
  have hh1 : w1.heap[gop]? = some (.cells #[.int .i64 3, .int .i64 x] 34 (0, 0)) := by rw [hw1, hgop]; exact heap_alloc_new _ _
  have h1 : Two w0 w1 g gx N v u A A := by rw [hw1]; exact h.below ((Below.refl _ _).alloc (Nat.le_refl _) _)
  have H1 := Lib.hid h1
  have HH1 := Lib.hid hh1
  have HW := Lib.hid hw1
  have HG := Lib.hid hgop
  have k0 : w1.cell? ⟨gop, 0, none⟩ = some (.int .i64 3) := by rw [cell_of_row _ _ _ _ _ _ hh1]; rfl
  have k1 : w1.cell? ⟨gop, 1, none⟩ = some (.int .i64 x) := by rw [cell_of_row _ _ _ _ _ _ hh1]; rfl
  clear h h1 hh1 hw1 hgop
  go_enter Try.func14, Try.ntmps14
  go_wp2_with fail
  rw [← HW.out, ← HG.out]
  refine wp_region_held_drew (S := fun W => W.heap[gop]? = some (.cells #[.int .i64 3, .int .i64 x] 34 (0, 0))) (by kernel_rfl) HH1.out (fun hS => ?_)
  clear k0 k1
  have H1d : Hid (Two w0 w1.drew g gx N v u A A) := H1.out.drewN 1
  clear H1
  have H1 := H1d
  clear H1d
  refine' wpAnyH_take (i := 0) ?h1x0 ?hsx0 ?hfx0 ?hrx0 ?hQx0 (Or.inl ⟨?hwx0, ?hyx0⟩) hS ?restx0
  case h1x0 => (simp only [List.getElem?_toArray, List.getElem?_cons_zero]; rfl)
  case hsx0 => kernel_rfl
  case hfx0 => kernel_rfl
  case hrx0 => kernel_rfl
  case hQx0 => exact fun _ _ _ h => h
  case hwx0 => rfl
  case hyx0 =>
    intro W hW
    go_simp
    try with_reducible rfl
  simp only [Act.put, List.setIfInBounds_toArray, List.set_cons_succ, List.set_cons_zero]
  refine' wpAnyH_take (i := 1) ?h1x1 ?hsx1 ?hfx1 ?hrx1 ?hQx1 (Or.inl ⟨?hwx1, ?hyx1⟩) hS ?restx1
  case h1x1 => (simp only [List.getElem?_toArray, List.getElem?_cons_succ, List.getElem?_cons_zero]; rfl)
  case hsx1 => kernel_rfl
  case hfx1 => kernel_rfl
  case hrx1 => kernel_rfl
  case hQx1 => exact fun _ _ _ h => h
  case hwx1 => rfl
  case hyx1 =>
    intro W hW
    go_simp
    try with_reducible rfl
  simp only [Act.put, List.setIfInBounds_toArray, List.set_cons_succ, List.set_cons_zero]
  refine' wpAnyH_take (i := 2) ?h1x2 ?hsx2 ?hfx2 ?hrx2 ?hQx2 (Or.inl ⟨?hwx2, ?hyx2⟩) hS ?restx2
  case h1x2 => (simp only [List.getElem?_toArray, List.getElem?_cons_succ, List.getElem?_cons_zero]; rfl)
  case hsx2 => kernel_rfl
  case hfx2 => kernel_rfl
  case hrx2 => kernel_rfl
  case hQx2 => exact fun _ _ _ h => h
  case hwx2 => rfl
  case hyx2 =>
    intro W hW
    have c1 : W.cell? ⟨gop, 1, none⟩ = some (.int .i64 x) := by rw [cell_of_row _ _ _ _ _ _ hW]; rfl
    go_simp
    try with_reducible rfl
  simp only [Act.put, List.setIfInBounds_toArray, List.set_cons_succ, List.set_cons_zero]
  refine' wpAnyH_take (i := 4) ?h1x4 ?hsx4 ?hfx4 ?hrx4 ?hQx4 (Or.inl ⟨?hwx4, ?hyx4⟩) hS ?restx4
  case h1x4 => (simp only [List.getElem?_toArray, List.getElem?_cons_succ, List.getElem?_cons_zero]; rfl)
  case hsx4 => kernel_rfl
  case hfx4 => kernel_rfl
  case hrx4 => kernel_rfl
  case hQx4 => exact fun _ _ _ h => h
  case hwx4 => rfl
  case hyx4 =>
    intro W hW
    go_simp
    try with_reducible rfl
  simp only [Act.put, List.setIfInBounds_toArray, List.set_cons_succ, List.set_cons_zero]
  refine' wpAnyH_take (i := 5) ?h1x5 ?hsx5 ?hfx5 ?hrx5 ?hQx5 (Or.inl ⟨?hwx5, ?hyx5⟩) hS ?restx5
  case h1x5 => (simp only [List.getElem?_toArray, List.getElem?_cons_succ, List.getElem?_cons_zero]; rfl)
  case hsx5 => kernel_rfl
  case hfx5 => kernel_rfl
  case hrx5 => kernel_rfl
  case hQx5 => exact fun _ _ _ h => h
  case hwx5 => rfl
  case hyx5 =>
    intro W hW
    go_simp
    try with_reducible rfl
  simp only [Act.put, List.setIfInBounds_toArray, List.set_cons_succ, List.set_cons_zero]
  refine' wpAnyH_take (i := 6) ?h1x6 ?hsx6 ?hfx6 ?hrx6 ?hQx6 (Or.inl ⟨?hwx6, ?hyx6⟩) hS ?restx6
  case h1x6 => (simp only [List.getElem?_toArray, List.getElem?_cons_succ, List.getElem?_cons_zero]; rfl)
  case hsx6 => kernel_rfl
  case hfx6 => kernel_rfl
  case hrx6 => kernel_rfl
  case hQx6 => exact fun _ _ _ h => h
  case hwx6 => rfl
  case hyx6 =>
    intro W hW
    have c1 : W.cell? ⟨gop, 1, none⟩ = some (.int .i64 x) := by rw [cell_of_row _ _ _ _ _ _ hW]; rfl
    go_simp
    try with_reducible rfl
  simp only [Act.put, List.setIfInBounds_toArray, List.set_cons_succ, List.set_cons_zero]
  refine wpAnyH_ready (rs := [3]) (by kernel_rfl) (by simp) ?_
  refine' AllReadyH.cons ?hoa (fun K hK => ?sta) AllReadyH.nil
  case hoa => (simp only [List.getElem?_toArray, List.getElem?_cons_succ, List.getElem?_cons_zero]; rfl)
  go_simp
  refine (drop_a H1.out (by omega) x hS).mono ?_
  rintro e w2 ⟨v8, rfl, ht8, hh8⟩
  go_wp2_with fail
  refine hK.out _ _ hh8 (fun hHeld => ?_)
  clear hK K
  try simp only [Act.put, List.setIfInBounds_toArray, List.set_cons_succ, List.set_cons_zero]
  clear hHeld
  have hS := hh8
  refine wpAnyH_ready (rs := [7]) (by kernel_rfl) (by simp) ?_
  refine' AllReadyH.cons ?hoc7a (fun K hK => ?stc7a) AllReadyH.nil
  case hoc7a => (simp only [List.getElem?_toArray, List.getElem?_cons_succ, List.getElem?_cons_zero]; rfl)
  go_simp
  refine (drop_b ht8 (by omega) x hS).mono ?_
  rintro e w3 ⟨v9, rfl, ht9, hh9⟩
  go_wp2_with fail
  refine hK.out _ _ hh9 (fun hHeld => ?_)
  clear hK K
  try simp only [Act.put, List.setIfInBounds_toArray, List.set_cons_succ, List.set_cons_zero]
  have hS := hHeld
  refine' wpAnyH_take (i := 8) ?h1x8a ?hsx8a ?hfx8a ?hrx8a ?hQx8a (Or.inl ⟨?hwx8a, ?hyx8a⟩) hS ?restx8a
  case h1x8a => (simp only [List.getElem?_toArray, List.getElem?_cons_succ, List.getElem?_cons_zero]; rfl)
  case hsx8a => kernel_rfl
  case hfx8a => kernel_rfl
  case hrx8a => kernel_rfl
  case hQx8a => exact fun _ _ _ h => h
  case hwx8a => rfl
  case hyx8a =>
    intro W hW
    go_simp
    try with_reducible rfl
  simp only [Act.put, List.setIfInBounds_toArray, List.set_cons_succ, List.set_cons_zero]
  refine' wpAnyH_take (i := 9) ?h1x9a ?hsx9a ?hfx9a ?hrx9a ?hQx9a (Or.inl ⟨?hwx9a, ?hyx9a⟩) hS ?restx9a
  case h1x9a => (simp only [List.getElem?_toArray, List.getElem?_cons_succ, List.getElem?_cons_zero]; rfl)
  case hsx9a => kernel_rfl
  case hfx9a => kernel_rfl
  case hrx9a => kernel_rfl
  case hQx9a => exact fun _ _ _ h => h
  case hwx9a => rfl
  case hyx9a =>
    intro W hW
    go_simp
    try with_reducible rfl
  simp only [Act.put, List.setIfInBounds_toArray, List.set_cons_succ, List.set_cons_zero]
  refine wpAnyH_done (by kernel_rfl) ?_ _
  go_wp2_with fail
  go_ret
  exact ⟨_, _, _, by simp, ht9, less_len hA x⟩
section
variable {w0 wr w' : World} {g gx N : Nat} {u v : Value} {A B : List Int}
theorem asks62 (w : World) (gop : Nat) (k y : Int) (hh : w.heap[gop]? = some (.cells #[.int .i64 k, .int .i64 y] 34 (0, 0))) : Asks w (.func (.func 62) #[] #[.pointer (some ⟨gop, 0, none⟩)]) (fun x => decide (y < x)) :=
  fun x W hb => ask62 x y gop W (by rw [cell_of_row _ _ _ _ _ _ ((hb.block gop (Array.getElem?_eq_some_iff.1 hh).1).trans hh)]; rfl)
def FindA (w0 : World) (g gx N : Nat) (u : Value) (A B : List Int) (z : Int) (gop : Nat) (cs : Array Value) (e : Ending) (w' : World) : Prop :=
  ∃ v', e = .returned (.int .i64 z) ∧ Two w0 w' g gx N v' u A B ∧ w'.heap[gop]? = some (.cells cs 34 (0, 0))
theorem find_a (h : Two w0 wr g gx N v u A B) (hN : A.length ≤ 65536) (y k : Int) {gop : Nat} (hh : wr.heap[gop]? = some (.cells #[.int .i64 k, .int .i64 y] 34 (0, 0))) :
    Calls Try.prog 38 #[.pointer (some ⟨g, 0, none⟩), .func (.func 62) #[] #[.pointer (some ⟨gop, 0, none⟩)]] wr (FindA w0 g gx N u A B (fst (fun x => decide (y < x)) A) gop #[.int .i64 k, .int .i64 y]) := by
  refine (findI h.ra hN 62 _ _ (asks62 wr gop k y hh)).mono ?_
  rintro e w1 ⟨rfl, rfl⟩
  exact ⟨v, rfl, h, hh⟩
theorem find_b (h : Two w0 wr g gx N v u A B) (hN : B.length ≤ 65536) (y : Int) {gop : Nat} {cs : Array Value} (hh : wr.heap[gop]? = some (.cells cs 34 (0, 0))) :
    Calls Try.prog 63 #[.pointer (some ⟨gx, 0, none⟩), .int .i64 y] wr (FindA w0 g gx N u A B (fst (fun x => decide (y < x)) B) gop cs) := by
  refine (refFind h.rb hN y).mono ?_
  rintro e w1 ⟨rfl, rfl⟩
  exact ⟨v, rfl, h, hh⟩
end
set_option maxRecDepth 100000 in
set_option maxHeartbeats 4000000 in
theorem one4 {w0 w : World} {g gx N : Nat} {v u : Value} {A : List Int} (h : Two w0 w g gx N v u A A) (hA : A.length ≤ N) (hN : N ≤ 65536) (x : Int) (hx0 : -9223372036854775808 ≤ x) (hx1 : x ≤ 9223372036854775807) :
    Calls Try.prog 14 #[.pointer (some ⟨g, 0, none⟩), .pointer (some ⟨gx, 0, none⟩), .agg #[.int .i64 4, .int .i64 x]] w (OneP w0 g gx N) := by
  obtain ⟨w1, hw1⟩ : ∃ w1, w1 = w.alloc (.cells #[.int .i64 4, .int .i64 x] 34) := ⟨_, rfl⟩
  obtain ⟨gop, hgop⟩ : ∃ gop, gop = w.heap.size := ⟨_, rfl⟩
  have hh1 : w1.heap[gop]? = some (.cells #[.int .i64 4, .int .i64 x] 34 (0, 0)) := by rw [hw1, hgop]; exact heap_alloc_new _ _
  have h1 : Two w0 w1 g gx N v u A A := by rw [hw1]; exact h.below ((Below.refl _ _).alloc (Nat.le_refl _) _)
  have H1 := Lib.hid h1
  have HH1 := Lib.hid hh1
  have HW := Lib.hid hw1
  have HG := Lib.hid hgop
  have k0 : w1.cell? ⟨gop, 0, none⟩ = some (.int .i64 4) := by rw [cell_of_row _ _ _ _ _ _ hh1]; rfl
  have k1 : w1.cell? ⟨gop, 1, none⟩ = some (.int .i64 x) := by rw [cell_of_row _ _ _ _ _ _ hh1]; rfl
  clear h h1 hh1 hw1 hgop
  go_enter Try.func14, Try.ntmps14
  go_wp2_with fail
  rw [← HW.out, ← HG.out]
  have hmf : ∀ (fn : Fn) (first cap : Array Value) (w : World), (Instr.makeFunc fn first cap).run Try.prog w = .ok (.func fn first cap) w := fun _ _ _ _ => rfl
  refine wp_region_held_drew (S := fun W => W.heap[gop]? = some (.cells #[.int .i64 4, .int .i64 x] 34 (0, 0))) (by kernel_rfl) HH1.out (fun hS => ?_)
  clear k0 k1
  have H1d : Hid (Two w0 w1.drew g gx N v u A A) := H1.out.drewN 1
  clear H1
  have H1 := H1d
  clear H1d
  refine' wpAnyH_take (i := 0) ?h1x0 ?hsx0 ?hfx0 ?hrx0 ?hQx0 (Or.inl ⟨?hwx0, ?hyx0⟩) hS ?restx0
  case h1x0 => (simp only [List.getElem?_toArray, List.getElem?_cons_zero]; rfl)
  case hsx0 => kernel_rfl
  case hfx0 => kernel_rfl
  case hrx0 => kernel_rfl
  case hQx0 => exact fun _ _ _ h => h
  case hwx0 => rfl
  case hyx0 =>
    intro W hW
    go_simp
    try with_reducible rfl
  simp only [Act.put, List.setIfInBounds_toArray, List.set_cons_succ, List.set_cons_zero]
  refine' wpAnyH_take (i := 1) ?h1x1 ?hsx1 ?hfx1 ?hrx1 ?hQx1 (Or.inl ⟨?hwx1, ?hyx1⟩) hS ?restx1
  case h1x1 => (simp only [List.getElem?_toArray, List.getElem?_cons_succ, List.getElem?_cons_zero]; rfl)
  case hsx1 => kernel_rfl
  case hfx1 => kernel_rfl
  case hrx1 => kernel_rfl
  case hQx1 => exact fun _ _ _ h => h
  case hwx1 => rfl
  case hyx1 =>
    intro W hW
    go_simp
    try with_reducible rfl
  simp only [Act.put, List.setIfInBounds_toArray, List.set_cons_succ, List.set_cons_zero]
  refine' wpAnyH_take (i := 3) ?h1x3 ?hsx3 ?hfx3 ?hrx3 ?hQx3 (Or.inl ⟨?hwx3, ?hyx3⟩) hS ?restx3
  case h1x3 => (simp only [List.getElem?_toArray, List.getElem?_cons_succ, List.getElem?_cons_zero]; rfl)
  case hsx3 => kernel_rfl
  case hfx3 => kernel_rfl
  case hrx3 => kernel_rfl
  case hQx3 => exact fun _ _ _ h => h
  case hwx3 => rfl
  case hyx3 =>
    intro W hW
    go_simp
    try with_reducible rfl
  simp only [Act.put, List.setIfInBounds_toArray, List.set_cons_succ, List.set_cons_zero]
  refine' wpAnyH_take (i := 4) ?h1x4 ?hsx4 ?hfx4 ?hrx4 ?hQx4 (Or.inl ⟨?hwx4, ?hyx4⟩) hS ?restx4
  case h1x4 => (simp only [List.getElem?_toArray, List.getElem?_cons_succ, List.getElem?_cons_zero]; rfl)
  case hsx4 => kernel_rfl
  case hfx4 => kernel_rfl
  case hrx4 => kernel_rfl
  case hQx4 => exact fun _ _ _ h => h
  case hwx4 => rfl
  case hyx4 =>
    intro W hW
    go_simp
    try with_reducible rfl
  simp only [Act.put, List.setIfInBounds_toArray, List.set_cons_succ, List.set_cons_zero]
  refine' wpAnyH_take (i := 5) ?h1x5 ?hsx5 ?hfx5 ?hrx5 ?hQx5 (Or.inl ⟨?hwx5, ?hyx5⟩) hS ?restx5
  case h1x5 => (simp only [List.getElem?_toArray, List.getElem?_cons_succ, List.getElem?_cons_zero]; rfl)
  case hsx5 => kernel_rfl
  case hfx5 => kernel_rfl
  case hrx5 => kernel_rfl
  case hQx5 => exact fun _ _ _ h => h
  case hwx5 => rfl
  case hyx5 =>
    intro W hW
    have c1 : W.cell? ⟨gop, 1, none⟩ = some (.int .i64 x) := by rw [cell_of_row _ _ _ _ _ _ hW]; rfl
    go_simp
    try with_reducible rfl
  simp only [Act.put, List.setIfInBounds_toArray, List.set_cons_succ, List.set_cons_zero]
  refine wpAnyH_ready (rs := [2]) (by kernel_rfl) (by simp) ?_
  refine' AllReadyH.cons ?hoa (fun K hK => ?sta) AllReadyH.nil
  case hoa => (simp only [List.getElem?_toArray, List.getElem?_cons_succ, List.getElem?_cons_zero]; rfl)
  go_simp
  refine (find_a H1.out (by omega) x 4 hS).mono ?_
  rintro e w2 ⟨v8, rfl, ht8, hh8⟩
  go_wp2_with fail
  refine hK.out _ _ hh8 (fun hHeld => ?_)
  clear hK K
  try simp only [Act.put, List.setIfInBounds_toArray, List.set_cons_succ, List.set_cons_zero]
  clear hHeld
  have hS := hh8
  refine wpAnyH_ready (rs := [6]) (by kernel_rfl) (by simp) ?_
  refine' AllReadyH.cons ?hoc6a (fun K hK => ?stc6a) AllReadyH.nil
  case hoc6a => (simp only [List.getElem?_toArray, List.getElem?_cons_succ, List.getElem?_cons_zero]; rfl)
  go_simp
  refine (find_b ht8 (by omega) x hS).mono ?_
  rintro e w3 ⟨v9, rfl, ht9, hh9⟩
  go_wp2_with fail
  refine hK.out _ _ hh9 (fun hHeld => ?_)
  clear hK K
  try simp only [Act.put, List.setIfInBounds_toArray, List.set_cons_succ, List.set_cons_zero]
  have hS := hHeld
  refine' wpAnyH_take (i := 7) ?h1x7a ?hsx7a ?hfx7a ?hrx7a ?hQx7a (Or.inl ⟨?hwx7a, ?hyx7a⟩) hS ?restx7a
  case h1x7a => (simp only [List.getElem?_toArray, List.getElem?_cons_succ, List.getElem?_cons_zero]; rfl)
  case hsx7a => kernel_rfl
  case hfx7a => kernel_rfl
  case hrx7a => kernel_rfl
  case hQx7a => exact fun _ _ _ h => h
  case hwx7a => rfl
  case hyx7a =>
    intro W hW
    go_simp
    try with_reducible rfl
  simp only [Act.put, List.setIfInBounds_toArray, List.set_cons_succ, List.set_cons_zero]
  refine' wpAnyH_take (i := 8) ?h1x8a ?hsx8a ?hfx8a ?hrx8a ?hQx8a (Or.inl ⟨?hwx8a, ?hyx8a⟩) hS ?restx8a
  case h1x8a => (simp only [List.getElem?_toArray, List.getElem?_cons_succ, List.getElem?_cons_zero]; rfl)
  case hsx8a => kernel_rfl
  case hfx8a => kernel_rfl
  case hrx8a => kernel_rfl
  case hQx8a => exact fun _ _ _ h => h
  case hwx8a => rfl
  case hyx8a =>
    intro W hW
    go_simp
    try with_reducible rfl
  simp only [Act.put, List.setIfInBounds_toArray, List.set_cons_succ, List.set_cons_zero]
  refine wpAnyH_done (by kernel_rfl) ?_ _
  go_wp2_with fail
  go_ret
  exact ⟨_, _, _, by simp, ht9, hA⟩
set_option maxRecDepth 100000 in
set_option maxHeartbeats 4000000 in
theorem one1_no {w0 w : World} {g gx N : Nat} {v u : Value} {A : List Int} (h : Two w0 w g gx N v u A A) (hA : A.length ≤ N) (hN : N ≤ 65536) (hE : A.length = 0) (x : Int) (hx0 : -9223372036854775808 ≤ x) (hx1 : x ≤ 9223372036854775807) :
    Calls Try.prog 14 #[.pointer (some ⟨g, 0, none⟩), .pointer (some ⟨gx, 0, none⟩), .agg #[.int .i64 1, .int .i64 x]] w (OneP w0 g gx N) := by
  obtain ⟨w1, hw1⟩ : ∃ w1, w1 = w.alloc (.cells #[.int .i64 1, .int .i64 x] 34) := ⟨_, rfl⟩
  obtain ⟨gop, hgop⟩ : ∃ gop, gop = w.heap.size := ⟨_, rfl⟩
  have hh1 : w1.heap[gop]? = some (.cells #[.int .i64 1, .int .i64 x] 34 (0, 0)) := by rw [hw1, hgop]; exact heap_alloc_new _ _
  have h1 : Two w0 w1 g gx N v u A A := by rw [hw1]; exact h.below ((Below.refl _ _).alloc (Nat.le_refl _) _)
  have H1 := Lib.hid h1
  have HH1 := Lib.hid hh1
  have HW := Lib.hid hw1
  have HG := Lib.hid hgop
  have k0 : w1.cell? ⟨gop, 0, none⟩ = some (.int .i64 1) := by rw [cell_of_row _ _ _ _ _ _ hh1]; rfl
  have k1 : w1.cell? ⟨gop, 1, none⟩ = some (.int .i64 x) := by rw [cell_of_row _ _ _ _ _ _ hh1]; rfl
  clear h h1 hh1 hw1 hgop
  go_enter Try.func14, Try.ntmps14
  go_wp2_with fail
  rw [← HW.out, ← HG.out]
  have hnil : A.length = 0 := hE
  obtain rfl : A = [] := List.eq_nil_of_length_eq_zero hnil
  refine (popI_no H1.out.ra).mono ?_
  rintro e w2 ⟨rfl, hb⟩
  have H2 := Lib.hid (H1.out.below hb)
  clear hb hnil hE k0 k1
  go_wp2_with fail
  refine (refPop_no H2.out.rb).mono ?_
  rintro e w3 ⟨rfl, rfl⟩
  go_wp2_with fail
  go_ret
  exact ⟨_, _, [], rfl, H2.out, by simp⟩
set_option maxRecDepth 100000 in
set_option maxHeartbeats 4000000 in
theorem one1 {w0 w : World} {g gx N : Nat} {v u : Value} {A : List Int} (h : Two w0 w g gx N v u A A) (hA : A.length ≤ N) (hN : N ≤ 65536) (hE : ¬ A.length = 0) (x : Int) (hx0 : -9223372036854775808 ≤ x) (hx1 : x ≤ 9223372036854775807) :
    Calls Try.prog 14 #[.pointer (some ⟨g, 0, none⟩), .pointer (some ⟨gx, 0, none⟩), .agg #[.int .i64 1, .int .i64 x]] w (OneP w0 g gx N) := by
  obtain ⟨w1, hw1⟩ : ∃ w1, w1 = w.alloc (.cells #[.int .i64 1, .int .i64 x] 34) := ⟨_, rfl⟩
  obtain ⟨gop, hgop⟩ : ∃ gop, gop = w.heap.size := ⟨_, rfl⟩
  have hh1 : w1.heap[gop]? = some (.cells #[.int .i64 1, .int .i64 x] 34 (0, 0)) := by rw [hw1, hgop]; exact heap_alloc_new _ _
  have h1 : Two w0 w1 g gx N v u A A := by rw [hw1]; exact h.below ((Below.refl _ _).alloc (Nat.le_refl _) _)
  have H1 := Lib.hid h1
  have HH1 := Lib.hid hh1
  have HW := Lib.hid hw1
  have HG := Lib.hid hgop
  have k0 : w1.cell? ⟨gop, 0, none⟩ = some (.int .i64 1) := by rw [cell_of_row _ _ _ _ _ _ hh1]; rfl
  have k1 : w1.cell? ⟨gop, 1, none⟩ = some (.int .i64 x) := by rw [cell_of_row _ _ _ _ _ _ hh1]; rfl
  clear h h1 hh1 hw1 hgop
  go_enter Try.func14, Try.ntmps14
  go_wp2_with fail
  rw [← HW.out, ← HG.out]
  obtain ⟨a0, A', rfl⟩ : ∃ a0 A', A = a0 :: A' := by
    cases A with
    | nil => simp at hE
    | cons a l => exact ⟨a, l, rfl⟩
  refine (popI H1.out.ra a0 (by simp)).mono ?_
  rintro e w2 ⟨v2, rfl, hr, hm, ha⟩
  have H2 : Hid (Two w0 w2 g gx N v2 u A' (a0 :: A')) := H1.out.turna (by simpa using hr) hm ha
  clear hr hm ha hE k0 k1
  go_wp2_with fail
  refine (refPop H2.out.rb a0 (by simp) (by omega)).mono ?_
  rintro e w3 ⟨u3, rfl, hr, hm, ha⟩
  have H3 : Hid (Two w0 w3 g gx N v2 u3 A' A') := H2.out.turnb (by simpa using hr) hm ha
  have hl : A'.length ≤ N := by simp at hA; omega
  clear hr hm ha H2
  go_wp2_with fail
  go_ret
  exact ⟨_, _, _, rfl, H3.out, hl⟩
set_option maxRecDepth 100000 in
set_option maxHeartbeats 4000000 in
theorem one2_no {w0 w : World} {g gx N : Nat} {v u : Value} {A : List Int} (h : Two w0 w g gx N v u A A) (hA : A.length ≤ N) (hN : N ≤ 65536) (x : Int) (hE : ¬ (0 ≤ x ∧ x < A.length)) (hx0 : -9223372036854775808 ≤ x) (hx1 : x ≤ 9223372036854775807) :
    Calls Try.prog 14 #[.pointer (some ⟨g, 0, none⟩), .pointer (some ⟨gx, 0, none⟩), .agg #[.int .i64 2, .int .i64 x]] w (OneP w0 g gx N) := by
  obtain ⟨w1, hw1⟩ : ∃ w1, w1 = w.alloc (.cells #[.int .i64 2, .int .i64 x] 34) := ⟨_, rfl⟩
  obtain ⟨gop, hgop⟩ : ∃ gop, gop = w.heap.size := ⟨_, rfl⟩
  have hh1 : w1.heap[gop]? = some (.cells #[.int .i64 2, .int .i64 x] 34 (0, 0)) := by rw [hw1, hgop]; exact heap_alloc_new _ _
  have h1 : Two w0 w1 g gx N v u A A := by rw [hw1]; exact h.below ((Below.refl _ _).alloc (Nat.le_refl _) _)
  have H1 := Lib.hid h1
  have HH1 := Lib.hid hh1
  have HW := Lib.hid hw1
  have HG := Lib.hid hgop
  have k0 : w1.cell? ⟨gop, 0, none⟩ = some (.int .i64 2) := by rw [cell_of_row _ _ _ _ _ _ hh1]; rfl
  have k1 : w1.cell? ⟨gop, 1, none⟩ = some (.int .i64 x) := by rw [cell_of_row _ _ _ _ _ _ hh1]; rfl
  clear h h1 hh1 hw1 hgop
  go_enter Try.func14, Try.ntmps14
  go_wp2_with fail
  rw [← HW.out, ← HG.out]
  refine (atI_no H1.out.ra x hE).mono ?_
  rintro e w2 ⟨rfl, hb⟩
  have H2 := Lib.hid (H1.out.below hb)
  have k2 : w2.cell? ⟨gop, 1, none⟩ = some (.int .i64 x) := (hb.cell (p := ⟨gop, 1, none⟩) (World.block_lt_of_cell? w1 _ k1)).trans k1
  have HE := Lib.hid hE
  clear hb hE
  go_wp2_with fail
  refine (refAt_no H2.out.rb x HE.out).mono ?_
  rintro e w3 ⟨rfl, rfl⟩
  go_wp2_with fail
  go_ret
  exact ⟨_, _, A, rfl, H2.out, hA⟩
set_option maxRecDepth 100000 in
set_option maxHeartbeats 4000000 in
theorem one2 {w0 w : World} {g gx N : Nat} {v u : Value} {A : List Int} (h : Two w0 w g gx N v u A A) (hA : A.length ≤ N) (hN : N ≤ 65536) (x : Int) (hE : 0 ≤ x ∧ x < A.length) (hx0 : -9223372036854775808 ≤ x) (hx1 : x ≤ 9223372036854775807) :
    Calls Try.prog 14 #[.pointer (some ⟨g, 0, none⟩), .pointer (some ⟨gx, 0, none⟩), .agg #[.int .i64 2, .int .i64 x]] w (OneP w0 g gx N) := by
  obtain ⟨w1, hw1⟩ : ∃ w1, w1 = w.alloc (.cells #[.int .i64 2, .int .i64 x] 34) := ⟨_, rfl⟩
  obtain ⟨gop, hgop⟩ : ∃ gop, gop = w.heap.size := ⟨_, rfl⟩
  have hh1 : w1.heap[gop]? = some (.cells #[.int .i64 2, .int .i64 x] 34 (0, 0)) := by rw [hw1, hgop]; exact heap_alloc_new _ _
  have h1 : Two w0 w1 g gx N v u A A := by rw [hw1]; exact h.below ((Below.refl _ _).alloc (Nat.le_refl _) _)
  have H1 := Lib.hid h1
  have HH1 := Lib.hid hh1
  have HW := Lib.hid hw1
  have HG := Lib.hid hgop
  have k0 : w1.cell? ⟨gop, 0, none⟩ = some (.int .i64 2) := by rw [cell_of_row _ _ _ _ _ _ hh1]; rfl
  have k1 : w1.cell? ⟨gop, 1, none⟩ = some (.int .i64 x) := by rw [cell_of_row _ _ _ _ _ _ hh1]; rfl
  clear h h1 hh1 hw1 hgop
  go_enter Try.func14, Try.ntmps14
  go_wp2_with fail
  rw [← HW.out, ← HG.out]
  obtain ⟨k, rfl⟩ : ∃ k : Nat, x = k := ⟨x.toNat, by omega⟩
  have hk : A[k]? = some (A[k]'(by omega)) := List.getElem?_eq_getElem (by omega)
  generalize A[k]'(by omega) = z at hk
  have HE := Lib.hid hk
  clear hE hk
  refine (atI H1.out.ra k z (by simp [HE.out])).mono ?_
  rintro e w2 ⟨rfl, rfl⟩
  go_wp2_with fail
  refine (refAt H1.out.rb k z (by simp [HE.out])).mono ?_
  rintro e w3 ⟨rfl, rfl⟩
  go_wp2_with fail
  go_ret
  exact ⟨_, _, A, rfl, H1.out, hA⟩
set_option maxRecDepth 100000 in
set_option maxHeartbeats 4000000 in
theorem one9 {w0 w : World} {g gx N : Nat} {v u : Value} {A : List Int} (h : Two w0 w g gx N v u A A) (hA : A.length ≤ N) (hN : N ≤ 65536) (kd x : Int) (e0 : (kd == 0) = false) (e1 : (kd == 1) = false) (e2 : (kd == 2) = false) (e3 : (kd == 3) = false) (e4 : (kd == 4) = false) (hx0 : -9223372036854775808 ≤ x) (hx1 : x ≤ 9223372036854775807) :
    Calls Try.prog 14 #[.pointer (some ⟨g, 0, none⟩), .pointer (some ⟨gx, 0, none⟩), .agg #[.int .i64 kd, .int .i64 x]] w (OneP w0 g gx N) := by
  obtain ⟨w1, hw1⟩ : ∃ w1, w1 = w.alloc (.cells #[.int .i64 kd, .int .i64 x] 34) := ⟨_, rfl⟩
  obtain ⟨gop, hgop⟩ : ∃ gop, gop = w.heap.size := ⟨_, rfl⟩
  have hh1 : w1.heap[gop]? = some (.cells #[.int .i64 kd, .int .i64 x] 34 (0, 0)) := by rw [hw1, hgop]; exact heap_alloc_new _ _
  have h1 : Two w0 w1 g gx N v u A A := by rw [hw1]; exact h.below ((Below.refl _ _).alloc (Nat.le_refl _) _)
  have H1 := Lib.hid h1
  have HH1 := Lib.hid hh1
  have HW := Lib.hid hw1
  have HG := Lib.hid hgop
  have k1 : w1.cell? ⟨gop, 1, none⟩ = some (.int .i64 x) := by rw [cell_of_row _ _ _ _ _ _ hh1]; rfl
  clear h h1 hh1 hw1 hgop
  go_enter Try.func14, Try.ntmps14
  go_wp2_with fail
  try rw [← HW.out]
  go_ret
  exact ⟨_, _, A, rfl, H1.out, hA⟩
theorem oneC {w0 w : World} {g gx N : Nat} {v u : Value} {A : List Int} (h : Two w0 w g gx N v u A A) (hA : A.length ≤ N) (hN : N ≤ 65536) (kd x : Int) (hx0 : -9223372036854775808 ≤ x) (hx1 : x ≤ 9223372036854775807) :
    Calls Try.prog 14 #[.pointer (some ⟨g, 0, none⟩), .pointer (some ⟨gx, 0, none⟩), .agg #[.int .i64 kd, .int .i64 x]] w (OneP w0 g gx N) := by
  by_cases e0 : kd = 0
  · subst e0; exact one0 h hA hN x hx0 hx1
  by_cases e1 : kd = 1
  · subst e1
    by_cases hE : A.length = 0
    · exact one1_no h hA hN hE x hx0 hx1
    · exact one1 h hA hN hE x hx0 hx1
  by_cases e2 : kd = 2
  · subst e2
    by_cases hE : 0 ≤ x ∧ x < A.length
    · exact one2 h hA hN x hE hx0 hx1
    · exact one2_no h hA hN x hE hx0 hx1
  by_cases e3 : kd = 3
  · subst e3; exact one3 h hA hN x hx0 hx1
  by_cases e4 : kd = 4
  · subst e4; exact one4 h hA hN x hx0 hx1
  exact one9 h hA hN kd x (by simpa using e0) (by simpa using e1) (by simpa using e2) (by simpa using e3) (by simpa using e4) hx0 hx1
end Go.Proofs.Ytfdihgahegfamaa
