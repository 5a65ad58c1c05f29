/-
  Contracts of package extent: admitted, fit, has, Limits, Charge. Condition: the field lies in memory.
-/
import Derived.Test.YtjgkochbfjlinaaH
namespace Go.Proofs.Ytjgkochbfjlinaa
open Go.RowKit
/-- Is a tenant admitted? -/
def isIn (T : Nat → Acc) (t : Int) : Prop := 1 ≤ t ∧ t ≤ 8 ∧ (T t.toNat).i = true
theorem admF_nil (t : Int) (w : World) : Calls Try.prog 39 #[.pointer none, .int .i64 t] w fun e w' => e = .returned (.tuple #[.pointer none, .int .i64 6]) ∧ w = w' := by
  go_enter Try.func39, Try.ntmps39
  go_wp2_with (go_at_call 14; refine (sizeF_nil _).mono ?_; rintro e w' ⟨rfl, rfl⟩)
  go_ret2
  exact ⟨rfl, rfl⟩
section
variable {w : World} {g rb mb wb N : Nat} {f : Nat → Nat} {T : Nat → Acc}
theorem admF_no (h : FD w g rb mb wb N f T) (t : Int) (ht : ¬ isIn T t) : Calls Try.prog 39 #[.pointer (some ⟨g, 0, none⟩), .int .i64 t] w fun e w' => e = .returned (.tuple #[.pointer none, .int .i64 51]) ∧ w = w' := by
  have H := Lib.hid h
  have hN : ((N : Int) == 0) = false := by have := h.n1; simp; omega
  by_cases h1 : t < 1
  · clear h ht
    go_enter Try.func39, Try.ntmps39
    go_wp2_with (go_at_call 14; refine (sizeF H.out).mono ?_; rintro e w' ⟨rfl, rfl⟩)
    go_ret2
    exact ⟨rfl, rfl⟩
  · by_cases h8 : 8 < t
    · clear h ht
      go_enter Try.func39, Try.ntmps39
      go_wp2_with (go_at_call 14; refine (sizeF H.out).mono ?_; rintro e w' ⟨rfl, rfl⟩)
      go_ret2
      exact ⟨rfl, rfl⟩
    · obtain ⟨n, rfl⟩ : ∃ n : Nat, t = n := ⟨t.toNat, by omega⟩
      have hi : (T n).i = false := by
        cases hq : (T n).i with
        | false => rfl
        | true => exact absurd ⟨by omega, by omega, hq⟩ ht
      have c := h.at0 n (by omega)
      rw [hi] at c
      have h9 : (n : Int) < 9 := by omega
      clear h ht hi
      go_enter Try.func39, Try.ntmps39
      go_wp2_with (go_at_call 14; refine (sizeF H.out).mono ?_; rintro e w' ⟨rfl, rfl⟩)
      go_ret2
      exact ⟨rfl, rfl⟩
theorem admF (h : FD w g rb mb wb N f T) (n : Nat) (h1 : 1 ≤ n) (h8 : n ≤ 8) (hi : (T n).i = true) : Calls Try.prog 39 #[.pointer (some ⟨g, 0, none⟩), .int .i64 n] w fun e w' => e = .returned (.tuple #[.pointer (some ⟨g, 1 + n * 4, none⟩), .int .i64 0]) ∧ w = w' := by
  have H := Lib.hid h
  have hN : ((N : Int) == 0) = false := by have := h.n1; simp; omega
  have c := h.at0 n (by omega)
  rw [hi] at c
  have h9 : (n : Int) < 9 := by omega
  have e1 : ¬ (n : Int) < 1 := by omega
  have e2 : ¬ 8 < (n : Int) := by omega
  clear h hi
  go_enter Try.func39, Try.ntmps39
  go_wp2_with (go_at_call 14; refine (sizeF H.out).mono ?_; rintro e w' ⟨rfl, rfl⟩)
  go_ret2
  exact ⟨rfl, rfl⟩
theorem fitF_nil (t r q : Int) (w : World) : Calls Try.prog 43 #[.pointer none, .int .i64 t, .int .i64 r, .int .i64 q] w fun e w' => e = .returned (.int .i64 6) ∧ w = w' := by
  go_enter Try.func43, Try.ntmps43
  go_wp2_with (go_at_call 14; refine (sizeF_nil _).mono ?_; rintro e w' ⟨rfl, rfl⟩)
  go_ret
  exact ⟨rfl, rfl⟩
/-- May limits be? -/
def mayL (N : Nat) (t r q : Int) : Prop := 1 ≤ t ∧ t ≤ 8 ∧ 0 ≤ r ∧ r ≤ q ∧ q ≤ N
set_option maxHeartbeats 1000000 in
theorem fitF_no (h : FD w g rb mb wb N f T) (t r q : Int) (hn : ¬ mayL N t r q) : Calls Try.prog 43 #[.pointer (some ⟨g, 0, none⟩), .int .i64 t, .int .i64 r, .int .i64 q] w fun e w' => e = .returned (.int .i64 1) ∧ w = w' := by
  have H := Lib.hid h
  have hN : ((N : Int) == 0) = false := by have := h.n1; simp; omega
  have hq : t < 1 ∨ (¬ t < 1 ∧ 8 < t) ∨ (¬ t < 1 ∧ ¬ 8 < t ∧ r < 0) ∨ (¬ t < 1 ∧ ¬ 8 < t ∧ ¬ r < 0 ∧ q < r) ∨ (¬ t < 1 ∧ ¬ 8 < t ∧ ¬ r < 0 ∧ ¬ q < r ∧ (N : Int) < q) := by unfold mayL at hn; omega
  clear h hn
  rcases hq with h1 | ⟨h1, h2⟩ | ⟨h1, h2, h3⟩ | ⟨h1, h2, h3, h4⟩ | ⟨h1, h2, h3, h4, h5⟩
  all_goals
    go_enter Try.func43, Try.ntmps43
    go_wp2_with (go_at_call 14; refine (sizeF H.out).mono ?_; rintro e w' ⟨rfl, rfl⟩)
    go_ret
    exact ⟨rfl, rfl⟩
set_option maxHeartbeats 1000000 in
theorem fitF (h : FD w g rb mb wb N f T) (t r q : Int) (hn : mayL N t r q) : Calls Try.prog 43 #[.pointer (some ⟨g, 0, none⟩), .int .i64 t, .int .i64 r, .int .i64 q] w fun e w' => e = .returned (.int .i64 0) ∧ w = w' := by
  have H := Lib.hid h
  have hN : ((N : Int) == 0) = false := by have := h.n1; simp; omega
  obtain ⟨h1, h2, h3, h4, h5⟩ : ¬ t < 1 ∧ ¬ 8 < t ∧ ¬ r < 0 ∧ ¬ q < r ∧ ¬ (N : Int) < q := by unfold mayL at hn; omega
  clear h hn
  go_enter Try.func43, Try.ntmps43
  go_wp2_with (go_at_call 14; refine (sizeF H.out).mono ?_; rintro e w' ⟨rfl, rfl⟩)
  go_ret
  exact ⟨rfl, rfl⟩
theorem hasF_nil (x : Int) (w : World) : Calls Try.prog 44 #[.pointer none, .int .u32 x] w fun e w' => e = .returned (.int .i64 6) ∧ w = w' := by
  go_enter Try.func44, Try.ntmps44
  go_wp2_with (go_at_call 14; refine (sizeF_nil _).mono ?_; rintro e w' ⟨rfl, rfl⟩)
  go_ret
  exact ⟨rfl, rfl⟩
theorem hasF_no (h : FD w g rb mb wb N f T) (x : Nat) (hx : N ≤ x) : Calls Try.prog 44 #[.pointer (some ⟨g, 0, none⟩), .int .u32 x] w fun e w' => e = .returned (.int .i64 1) ∧ w = w' := by
  have H := Lib.hid h
  have hN : ((N : Int) == 0) = false := by have := h.n1; simp; omega
  have n2 : (N : Int) ≤ 2048 := by have := h.n2; omega
  have n0 : 0 ≤ (N : Int) := by omega
  have hx2 : (N : Int) ≤ x := by omega
  clear h
  go_enter Try.func44, Try.ntmps44
  go_wp2_with (go_at_call 14; refine (sizeF H.out).mono ?_; rintro e w' ⟨rfl, rfl⟩)
  go_ret
  exact ⟨rfl, rfl⟩
theorem hasF (h : FD w g rb mb wb N f T) (x : Nat) (hx : x < N) : Calls Try.prog 44 #[.pointer (some ⟨g, 0, none⟩), .int .u32 x] w fun e w' => e = .returned (.int .i64 0) ∧ w = w' := by
  have H := Lib.hid h
  have hN : ((N : Int) == 0) = false := by have := h.n1; simp; omega
  have n2 : (N : Int) ≤ 2048 := by have := h.n2; omega
  have n0 : 0 ≤ (N : Int) := by omega
  have hx2 : ¬ (N : Int) ≤ x := by omega
  clear h
  go_enter Try.func44, Try.ntmps44
  go_wp2_with (go_at_call 14; refine (sizeF H.out).mono ?_; rintro e w' ⟨rfl, rfl⟩)
  go_ret
  exact ⟨rfl, rfl⟩
theorem chargeOf_nil (t : Int) (w : World) : Calls Try.prog 17 #[.pointer none, .int .i64 t] w fun e w' => e = .returned (.int .i64 0) ∧ w = w' := by
  go_enter Try.func17, Try.ntmps17
  go_wp2_with (go_at_call 39; refine (admF_nil _ _).mono ?_; rintro e w' ⟨rfl, rfl⟩)
  go_ret
  exact ⟨rfl, rfl⟩
/-- How many extents are charged to a tenant. -/
def chg (T : Nat → Acc) (t : Int) : Int := if 1 ≤ t ∧ t ≤ 8 then (T t.toNat).c else 0
theorem chargeOf (h : FD w g rb mb wb N f T) (t : Int) : Calls Try.prog 17 #[.pointer (some ⟨g, 0, none⟩), .int .i64 t] w fun e w' => e = .returned (.int .i64 (chg T t)) ∧ w = w' := by
  by_cases ht : isIn T t
  · obtain ⟨h1, h8, hi⟩ := ht
    obtain ⟨n, rfl⟩ : ∃ n : Nat, t = n := ⟨t.toNat, by omega⟩
    have e : chg T n = (T n).c := by unfold chg; rw [if_pos ⟨by omega, by omega⟩]; rfl
    rw [e]
    have AD := Lib.hid (admF h n (by omega) (by omega) hi)
    have c := h.at3 n (by omega)
    clear h hi e h1 h8
    go_enter Try.func17, Try.ntmps17
    go_wp2_with (go_at_call 39; refine AD.out.mono ?_; rintro e w' ⟨rfl, rfl⟩)
    go_ret
    exact ⟨rfl, rfl⟩
  · have e : chg T t = 0 := by
      unfold chg
      split
      · rename_i hr
        have : (T t.toNat).i = false := by
          cases hq : (T t.toNat).i with
          | false => rfl
          | true => exact absurd ⟨hr.1, hr.2, hq⟩ ht
        rw [h.inv.out _ this]; rfl
      · rfl
    rw [e]
    have AD := Lib.hid (admF_no h t ht)
    clear h ht e
    go_enter Try.func17, Try.ntmps17
    go_wp2_with (go_at_call 39; refine AD.out.mono ?_; rintro e w' ⟨rfl, rfl⟩)
    go_ret
    exact ⟨rfl, rfl⟩
theorem limits_nil (t : Int) (w : World) : Calls Try.prog 15 #[.pointer none, .int .i64 t] w fun e w' => e = .returned (.tuple #[.int .i64 0, .int .i64 0, .bool false]) ∧ w = w' := by
  go_enter Try.func15, Try.ntmps15
  go_wp2_with (go_at_call 39; refine (admF_nil _ _).mono ?_; rintro e w' ⟨rfl, rfl⟩)
  go_ret3
  exact ⟨rfl, rfl⟩
/-- A tenant's limits. -/
def lim (T : Nat → Acc) (t : Int) : Acc := if 1 ≤ t ∧ t ≤ 8 then T t.toNat else a0
theorem limits (h : FD w g rb mb wb N f T) (t : Int) : Calls Try.prog 15 #[.pointer (some ⟨g, 0, none⟩), .int .i64 t] w fun e w' => e = .returned (.tuple #[.int .i64 (lim T t).r, .int .i64 (lim T t).q, .bool (lim T t).i]) ∧ ∃ n, w' = w.drewN n := by
  by_cases ht : isIn T t
  · obtain ⟨h1, h8, hi⟩ := ht
    obtain ⟨n, rfl⟩ : ∃ n : Nat, t = n := ⟨t.toNat, by omega⟩
    have e : lim T n = T n := by unfold lim; rw [if_pos ⟨by omega, by omega⟩]; rfl
    have hi' : (T n).i = true := hi
    rw [e, hi']
    have AD := Lib.hid (admF h n (by omega) (by omega) hi)
    have c1 := h.at1 n (by omega)
    have c2 := h.at2 n (by omega)
    clear h hi hi' e h1 h8
    go_enter Try.func15, Try.ntmps15
    go_wp2_with (go_at_call 39; refine AD.out.mono ?_; rintro e w' ⟨rfl, rfl⟩)
    go_quiet (fail)
    go_wp2_with fail
    go_ret3
    exact ⟨rfl, _, rfl⟩
  · have e : lim T t = a0 := by
      unfold lim
      split
      · rename_i hr
        have : (T t.toNat).i = false := by
          cases hq : (T t.toNat).i with
          | false => rfl
          | true => exact absurd ⟨hr.1, hr.2, hq⟩ ht
        rw [h.inv.out _ this]
      · rfl
    rw [e]
    have AD := Lib.hid (admF_no h t ht)
    clear h ht e
    go_enter Try.func15, Try.ntmps15
    go_wp2_with (go_at_call 39; refine AD.out.mono ?_; rintro e w' ⟨rfl, rfl⟩)
    go_ret3
    exact ⟨rfl, 0, rfl⟩
end
end Go.Proofs.Ytjgkochbfjlinaa
