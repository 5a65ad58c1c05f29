/-
  What a change makes of a field's accounts, and of the cells that hold them. Condition: none.
-/
import Derived.Test.YtjdamlmoegippaaDoorExH
namespace Go.Proofs.YtjdamlmoegippaaDoor.ex
open Go.RowKit
/-- Is a tenant admitted? -/
def isIn (T : Nat → Acc) (t : Int) : Prop := 1 ≤ t ∧ t ≤ 8 ∧ (T t.toNat).i = true
section
variable {w : World} {g rb mb wb N : Nat} {f : Nat → Nat} {T : Nat → Acc}
theorem admF_no (h : FD w g rb mb wb N f T) (t : Int) (ht : ¬ isIn T t) : Calls Tryd.prog 34 #[.pointer (some ⟨g, 0, none⟩), .int .i64 t] w fun e w' => e = .returned (.tuple #[.pointer none, .int .i64 51]) ∧ w = w' := by
  have H := Lib.hid h
  have hN : ((N : Int) == 0) = false := by have := h.n1; simp; omega
  by_cases h1 : t < 1
  · clear h ht
    go_enter Tryd.func34, Tryd.ntmps34
    go_wp2_with (go_at_call 24; refine (sizeF H.out).mono ?_; rintro e w' ⟨rfl, rfl⟩)
    go_ret2
    exact ⟨rfl, rfl⟩
  · by_cases h8 : 8 < t
    · clear h ht
      go_enter Tryd.func34, Tryd.ntmps34
      go_wp2_with (go_at_call 24; refine (sizeF H.out).mono ?_; rintro e w' ⟨rfl, rfl⟩)
      go_ret2
      exact ⟨rfl, rfl⟩
    · obtain ⟨n, rfl⟩ : ∃ n : Nat, t = n := ⟨t.toNat, by omega⟩
      have hi : (T n).i = false := by
        cases hq : (T n).i with
        | false => rfl
        | true => exact absurd ⟨by omega, by omega, hq⟩ ht
      have c := h.at0 n (by omega)
      rw [hi] at c
      have h9 : (n : Int) < 9 := by omega
      clear h ht hi
      go_enter Tryd.func34, Tryd.ntmps34
      go_wp2_with (go_at_call 24; refine (sizeF H.out).mono ?_; rintro e w' ⟨rfl, rfl⟩)
      go_ret2
      exact ⟨rfl, rfl⟩
theorem admF (h : FD w g rb mb wb N f T) (n : Nat) (h1 : 1 ≤ n) (h8 : n ≤ 8) (hi : (T n).i = true) : Calls Tryd.prog 34 #[.pointer (some ⟨g, 0, none⟩), .int .i64 n] w fun e w' => e = .returned (.tuple #[.pointer (some ⟨g, 1 + n * 4, none⟩), .int .i64 0]) ∧ w = w' := by
  have H := Lib.hid h
  have hN : ((N : Int) == 0) = false := by have := h.n1; simp; omega
  have c := h.at0 n (by omega)
  rw [hi] at c
  have h9 : (n : Int) < 9 := by omega
  have e1 : ¬ (n : Int) < 1 := by omega
  have e2 : ¬ 8 < (n : Int) := by omega
  clear h hi
  go_enter Tryd.func34, Tryd.ntmps34
  go_wp2_with (go_at_call 24; refine (sizeF H.out).mono ?_; rintro e w' ⟨rfl, rfl⟩)
  go_ret2
  exact ⟨rfl, rfl⟩
/-- May limits be? -/
def mayL (N : Nat) (t r q : Int) : Prop := 1 ≤ t ∧ t ≤ 8 ∧ 0 ≤ r ∧ r ≤ q ∧ q ≤ N
set_option maxHeartbeats 1000000 in
theorem fitF_no (h : FD w g rb mb wb N f T) (t r q : Int) (hn : ¬ mayL N t r q) : Calls Tryd.prog 52 #[.pointer (some ⟨g, 0, none⟩), .int .i64 t, .int .i64 r, .int .i64 q] w fun e w' => e = .returned (.int .i64 1) ∧ w = w' := by
  have H := Lib.hid h
  have hN : ((N : Int) == 0) = false := by have := h.n1; simp; omega
  have hq : t < 1 ∨ (¬ t < 1 ∧ 8 < t) ∨ (¬ t < 1 ∧ ¬ 8 < t ∧ r < 0) ∨ (¬ t < 1 ∧ ¬ 8 < t ∧ ¬ r < 0 ∧ q < r) ∨ (¬ t < 1 ∧ ¬ 8 < t ∧ ¬ r < 0 ∧ ¬ q < r ∧ (N : Int) < q) := by unfold mayL at hn; omega
  clear h hn
  rcases hq with h1 | ⟨h1, h2⟩ | ⟨h1, h2, h3⟩ | ⟨h1, h2, h3, h4⟩ | ⟨h1, h2, h3, h4, h5⟩
  all_goals
    go_enter Tryd.func52, Tryd.ntmps52
    go_wp2_with (go_at_call 24; refine (sizeF H.out).mono ?_; rintro e w' ⟨rfl, rfl⟩)
    go_ret
    exact ⟨rfl, rfl⟩
set_option maxHeartbeats 1000000 in
theorem fitF (h : FD w g rb mb wb N f T) (t r q : Int) (hn : mayL N t r q) : Calls Tryd.prog 52 #[.pointer (some ⟨g, 0, none⟩), .int .i64 t, .int .i64 r, .int .i64 q] w fun e w' => e = .returned (.int .i64 0) ∧ w = w' := by
  have H := Lib.hid h
  have hN : ((N : Int) == 0) = false := by have := h.n1; simp; omega
  obtain ⟨h1, h2, h3, h4, h5⟩ : ¬ t < 1 ∧ ¬ 8 < t ∧ ¬ r < 0 ∧ ¬ q < r ∧ ¬ (N : Int) < q := by unfold mayL at hn; omega
  clear h hn
  go_enter Tryd.func52, Tryd.ntmps52
  go_wp2_with (go_at_call 24; refine (sizeF H.out).mono ?_; rintro e w' ⟨rfl, rfl⟩)
  go_ret
  exact ⟨rfl, rfl⟩
theorem hasF_no (h : FD w g rb mb wb N f T) (x : Nat) (hx : N ≤ x) : Calls Tryd.prog 33 #[.pointer (some ⟨g, 0, none⟩), .int .u32 x] w fun e w' => e = .returned (.int .i64 1) ∧ w = w' := by
  have H := Lib.hid h
  have hN : ((N : Int) == 0) = false := by have := h.n1; simp; omega
  have n2 : (N : Int) ≤ 2048 := by have := h.n2; omega
  have n0 : 0 ≤ (N : Int) := by omega
  have hx2 : (N : Int) ≤ x := by omega
  clear h
  go_enter Tryd.func33, Tryd.ntmps33
  go_wp2_with (go_at_call 24; refine (sizeF H.out).mono ?_; rintro e w' ⟨rfl, rfl⟩)
  go_ret
  exact ⟨rfl, rfl⟩
theorem hasF (h : FD w g rb mb wb N f T) (x : Nat) (hx : x < N) : Calls Tryd.prog 33 #[.pointer (some ⟨g, 0, none⟩), .int .u32 x] w fun e w' => e = .returned (.int .i64 0) ∧ w = w' := by
  have H := Lib.hid h
  have hN : ((N : Int) == 0) = false := by have := h.n1; simp; omega
  have n2 : (N : Int) ≤ 2048 := by have := h.n2; omega
  have n0 : 0 ≤ (N : Int) := by omega
  have hx2 : ¬ (N : Int) ≤ x := by omega
  clear h
  go_enter Tryd.func33, Tryd.ntmps33
  go_wp2_with (go_at_call 24; refine (sizeF H.out).mono ?_; rintro e w' ⟨rfl, rfl⟩)
  go_ret
  exact ⟨rfl, rfl⟩
end
end Go.Proofs.YtjdamlmoegippaaDoor.ex
namespace Go.Proofs.YtjdamlmoegippaaDoor.ex
open Go.RowKit
theorem slack_upd (N : Nat) (T : Nat → Acc) (t : Nat) (h1 : 1 ≤ t) (h8 : t ≤ 8) (a : Acc) : slack N (updT T t a) = slack N T + (T t).sh - a.sh := by
  unfold slack
  have := sum9_upd (fun k => (T k).sh) (fun k => (updT T t a k).sh) t h1 h8 (fun k hk => by simp only [updT_ne _ _ hk])
  simp only [updT_self] at this
  omega
/-- What a change of one tenant's account keeps. -/
theorem Inv.set {N : Nat} {f f' : Nat → Nat} {T : Nat → Acc} (h : Inv N f T) (t : Nat) (h1 : 1 ≤ t) (h8 : t ≤ 8) (a : Acc) (ho : a.i = false → a = a0) (hr : 0 ≤ a.r ∧ a.r ≤ a.q ∧ a.q ≤ N) (hc : 0 ≤ a.c ∧ a.c ≤ a.q)
    (hs : a.sh ≤ slack N T + (T t).sh) (hf : (cnt f' N : Int) = cnt f N - (T t).c + a.c) : Inv N f' (updT T t a) := by
  refine ⟨?_, fun k hk => ?_, fun k => ?_, fun k => ?_, ?_, ?_⟩
  · rw [updT_ne _ _ (by omega)]; exact h.z
  · by_cases e : k = t
    · subst e; rw [updT_self] at hk ⊢; exact ho hk
    · rw [updT_ne _ _ e] at hk ⊢; exact h.out k hk
  · by_cases e : k = t
    · subst e; rw [updT_self]; exact hr
    · rw [updT_ne _ _ e]; exact h.rq k
  · by_cases e : k = t
    · subst e; rw [updT_self]; exact hc
    · rw [updT_ne _ _ e]; exact h.cq k
  · have := sum9_upd (fun k => (T k).c) (fun k => (updT T t a k).c) t h1 h8 (fun k hk => by simp only [updT_ne _ _ hk])
    simp only [updT_self] at this
    rw [this, h.sum, hf]
  · rw [slack_upd N T t h1 h8]; omega
/-- An extent is held, or dropped, beside what is charged. -/
theorem Inv.times {N : Nat} {f f' : Nat → Nat} {T : Nat → Acc} (h : Inv N f T) (hf : cnt f' N = cnt f N) : Inv N f' T :=
  ⟨h.z, h.out, h.rq, h.cq, by rw [hf]; exact h.sum, h.sl⟩
theorem cnt_hold {f : Nat → Nat} {i N : Nat} (h : i < N) (hf : f i = 0) : cnt (upd f i (f i + 1)) N = cnt f N + 1 := by
  have := cnt_upd f i (f i + 1) N h
  rw [if_pos hf, if_neg (by omega)] at this
  omega
theorem cnt_more {f : Nat → Nat} {i N v : Nat} (h : i < N) (hf : f i ≠ 0) (hv : v ≠ 0) : cnt (upd f i v) N = cnt f N := by
  have := cnt_upd f i v N h
  rw [if_neg hf, if_neg hv] at this
  omega
theorem cnt_one {f : Nat → Nat} {i N : Nat} (h : i < N) (hf : f i ≠ 0) : cnt (upd f i 0) N + 1 = cnt f N := by
  have := cnt_upd f i 0 N h
  rw [if_neg hf, if_pos rfl] at this
  omega
theorem blk_set {w : World} {g t : Nat} {cs : Array Value} (h : w.heap[g]? = some (.cells cs t (0, 0))) (k : Nat) (v : Value) :
    (w.setCell ⟨g, k, none⟩ v).heap[g]? = some (.cells (cs.setIfInBounds k v) t (0, 0)) := heap_setCell_same _ _ _ _ _ _ h
theorem fC_set (rb : Nat) (T : Nat → Acc) (k : Nat) (v : Value) : (fC rb T).toArray.setIfInBounds (k + 1) v = (Value.pointer (some ⟨rb, 0, none⟩) :: (tC T).set k v).toArray := by
  simp [fC, List.setIfInBounds_toArray]
section
variable {w : World} {g rb mb wb N : Nat} {f : Nat → Nat} {T : Nat → Acc}
/-- A tenant's account is written. -/
theorem FD.blkA (h : FD w g rb mb wb N f T) (n : Nat) (hn : n < 9) (a : Acc) :
    ((((w.setCell ⟨g, 1 + n * 4, none⟩ (.bool a.i)).setCell ⟨g, 1 + n * 4 + 1, none⟩ (.int .i64 a.r)).setCell ⟨g, 1 + n * 4 + 2, none⟩ (.int .i64 a.q)).setCell ⟨g, 1 + n * 4 + 3, none⟩ (.int .i64 a.c)).heap[g]?
      = some (.cells (fC rb (updT T n a)).toArray 84 (0, 0)) := by
  rw [blk_set (blk_set (blk_set (blk_set h.blk _ _) _ _) _ _) _ _]
  rw [show 1 + n * 4 = 4 * n + 1 by omega, fC_set]
  rw [show 4 * n + 1 + 1 = (4 * n + 1) + 1 by omega, show 4 * n + 1 + 2 = (4 * n + 2) + 1 by omega, show 4 * n + 1 + 3 = (4 * n + 3) + 1 by omega]
  simp only [List.setIfInBounds_toArray, List.set_cons_succ]
  rw [tC_upd T n hn a]
  rfl
/-- A tenant's charge is written. -/
theorem FD.blkC (h : FD w g rb mb wb N f T) (n : Nat) (hn : n < 9) (c : Int) :
    (w.setCell ⟨g, 1 + n * 4 + 3, none⟩ (.int .i64 c)).heap[g]? = some (.cells (fC rb (updT T n ⟨(T n).i, (T n).r, (T n).q, c⟩)).toArray 84 (0, 0)) := by
  rw [blk_set h.blk, show 1 + n * 4 + 3 = (4 * n + 3) + 1 by omega, fC_set, tC_updc T n hn c]
  rfl
theorem FD.setA (h : FD w g rb mb wb N f T) (n : Nat) (hn : n < 9) (a : Acc) (hv : Inv N f (updT T n a)) :
    FD ((((w.setCell ⟨g, 1 + n * 4, none⟩ (.bool a.i)).setCell ⟨g, 1 + n * 4 + 1, none⟩ (.int .i64 a.r)).setCell ⟨g, 1 + n * 4 + 2, none⟩ (.int .i64 a.q)).setCell ⟨g, 1 + n * 4 + 3, none⟩ (.int .i64 a.c)) g rb mb wb N f (updT T n a)
      ∧ Mods (Ft g mb wb) w ((((w.setCell ⟨g, 1 + n * 4, none⟩ (.bool a.i)).setCell ⟨g, 1 + n * 4 + 1, none⟩ (.int .i64 a.r)).setCell ⟨g, 1 + n * 4 + 2, none⟩ (.int .i64 a.q)).setCell ⟨g, 1 + n * 4 + 3, none⟩ (.int .i64 a.c)) := by
  have hm : Mods (fun k => k = g) w ((((w.setCell ⟨g, 1 + n * 4, none⟩ (.bool a.i)).setCell ⟨g, 1 + n * 4 + 1, none⟩ (.int .i64 a.r)).setCell ⟨g, 1 + n * 4 + 2, none⟩ (.int .i64 a.q)).setCell ⟨g, 1 + n * 4 + 3, none⟩ (.int .i64 a.c)) :=
    (((Mods.set (S := fun k => k = g) w _ _ rfl).trans (Mods.set (S := fun k => k = g) _ _ _ rfl) (fun _ hb => .inl hb)).trans (Mods.set (S := fun k => k = g) _ _ _ rfl) (fun _ hb => .inl hb)).trans (Mods.set (S := fun k => k = g) _ _ _ rfl) (fun _ hb => .inl hb)
  exact ⟨⟨h.blkA n hn a, h.row.mods hm (fun e => h.ne1 e.symm) (fun e => h.ne2 e.symm) (fun e => h.ne3 e.symm), h.n2, hv⟩, hm.mono (fun b hb => .inl (.inl hb))⟩
end
end Go.Proofs.YtjdamlmoegippaaDoor.ex
