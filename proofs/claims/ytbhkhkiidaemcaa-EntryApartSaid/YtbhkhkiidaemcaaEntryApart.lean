/-
  For all volumes and blocks the law EntryApart of package casematelaw23 returns true: unlike volumes and blocks have unlike keys; all of a volume stand from its description's key on, and ahead of the next one's. Condition: none.
-/
import Derived.Test.YtbhkhkiidaemcaaES
namespace Go.Proofs.Ytbhkhkiidaemcaa.entryApart
open Go.ChangeShapes Go.WideShapes Go.ChangeAt Go.RowKit
theorem bE_some (a b : Int) : bE a b = 0 ∨ (bE a b ≠ 0 ∧ (bE a b = 52 ∨ bE a b = 62)) := by
  unfold bE; split
  · exact .inr ⟨by decide, .inl rfl⟩
  · split
    · exact .inr ⟨by decide, .inr rfl⟩
    · exact .inl rfl
theorem bE_ok {a b : Int} (h : bE a b = 0) : (1 ≤ a ∧ a ≤ 8) ∧ (0 ≤ b ∧ b ≤ 255) ∧ bK a b = a * 4294967296 + 1 + b ∧ vE a = 0 ∧ vK a = a * 4294967296 := by
  unfold bE at h
  by_cases h1 : a < 1 ∨ 8 < a
  · rw [if_pos h1] at h; exact absurd h (by decide)
  · rw [if_neg h1] at h
    by_cases h2 : b < 0 ∨ 255 < b
    · rw [if_pos h2] at h; exact absurd h (by decide)
    · exact ⟨by omega, by omega, by unfold bK; rw [if_neg h1, if_neg h2], if_neg h1, if_neg h1⟩
def WP (w : World) (e : Ending) (w' : World) : Prop := e = .returned (.bool true) ∧ Below w.heap.size w w'
set_option maxRecDepth 100000 in
set_option maxHeartbeats 4000000 in
theorem walk_no (a b c d x y p q k l u v : Int) (P1 : Hid (∀ W, Calls Try.prog 10 #[.int .i64 a, .int .i64 b] W fun e w' => e = .returned (.tuple #[.int .u64 x, .int .i64 p]) ∧ W = w'))
    (P2 : Hid (∀ W, Calls Try.prog 10 #[.int .i64 c, .int .i64 d] W fun e w' => e = .returned (.tuple #[.int .u64 y, .int .i64 q]) ∧ W = w'))
    (P3 : Hid (∀ W, Calls Try.prog 8 #[.int .i64 a] W fun e w' => e = .returned (.tuple #[.int .u64 k, .int .i64 u]) ∧ W = w'))
    (P4 : Hid (∀ W, Calls Try.prog 8 #[.int .i64 c] W fun e w' => e = .returned (.tuple #[.int .u64 l, .int .i64 v]) ∧ W = w'))
    (h : (p != 0) = true ∨ ((p != 0) = false ∧ (q != 0) = true)) (w : World) : Calls Try.prog 7 #[.int .i64 a, .int .i64 b, .int .i64 c, .int .i64 d] w (WP w) := by
  rcases h with h | ⟨h, h2⟩
  · go_enter Try.func7, Try.ntmps7
    go_wp2_with fail
    refine (P1.out _).mono ?_
    rintro e w' ⟨rfl, rfl⟩
    go_wp2_with fail
    refine (P2.out _).mono ?_
    rintro e w' ⟨rfl, rfl⟩
    go_wp2_with fail
    refine (P3.out _).mono ?_
    rintro e w' ⟨rfl, rfl⟩
    go_wp2_with fail
    refine (P4.out _).mono ?_
    rintro e w' ⟨rfl, rfl⟩
    go_wp2_with fail
    refine (alive23 _).mono ?_
    rintro e w' ⟨rfl, hb⟩
    go_wp2_with fail
    go_ret
    exact ⟨rfl, hb⟩
  · go_enter Try.func7, Try.ntmps7
    go_wp2_with fail
    refine (P1.out _).mono ?_
    rintro e w' ⟨rfl, rfl⟩
    go_wp2_with fail
    refine (P2.out _).mono ?_
    rintro e w' ⟨rfl, rfl⟩
    go_wp2_with fail
    refine (P3.out _).mono ?_
    rintro e w' ⟨rfl, rfl⟩
    go_wp2_with fail
    refine (P4.out _).mono ?_
    rintro e w' ⟨rfl, rfl⟩
    go_wp2_with fail
    refine (alive23 _).mono ?_
    rintro e w' ⟨rfl, hb⟩
    go_wp2_with fail
    go_ret
    exact ⟨rfl, hb⟩
set_option maxRecDepth 100000 in
set_option maxHeartbeats 8000000 in
theorem walk_yes (a b c d x y k l : Int) (P1 : Hid (∀ W, Calls Try.prog 10 #[.int .i64 a, .int .i64 b] W fun e w' => e = .returned (.tuple #[.int .u64 x, .int .i64 0]) ∧ W = w'))
    (P2 : Hid (∀ W, Calls Try.prog 10 #[.int .i64 c, .int .i64 d] W fun e w' => e = .returned (.tuple #[.int .u64 y, .int .i64 0]) ∧ W = w'))
    (P3 : Hid (∀ W, Calls Try.prog 8 #[.int .i64 a] W fun e w' => e = .returned (.tuple #[.int .u64 k, .int .i64 0]) ∧ W = w'))
    (P4 : Hid (∀ W, Calls Try.prog 8 #[.int .i64 c] W fun e w' => e = .returned (.tuple #[.int .u64 l, .int .i64 0]) ∧ W = w'))
    (f1 f2 f3 f4 f5 f6 f7 : Bool) (e1 : (x == y) = f1) (e2 : (a == c) = f2) (e2' : (a != c) = !f2) (e3 : (b == d) = f3) (ef : f1 = (f2 && f3)) (e4 : decide (x ≤ k) = false) (e5 : decide (y ≤ l) = false) (e6 : decide (a < c) = f4) (e7 : decide (k < l) = f4)
    (e8 : decide (c ≤ a) = f5) (e9 : decide (x < l) = f6) (g1 : (f5 || f6) = true) (e10 : decide (b < d) = f7) (e11 : f2 = true → decide (x < y) = f7) (e12 : decide (0 < k) = true)
    (w : World) : Calls Try.prog 7 #[.int .i64 a, .int .i64 b, .int .i64 c, .int .i64 d] w (WP w) := by
  cases f2 with
  | true =>
    have e13 := e11 rfl
    clear e11
    cases f3 <;> cases f4 <;> cases f5 <;> cases f6 <;> cases f7 <;> simp only [Bool.or_false, Bool.or_true, Bool.false_eq_true, Bool.and_true, Bool.and_false, Bool.not_true] at g1 ef e2' <;> subst ef <;> (try (exact g1.elim))
    all_goals
      clear g1
      go_enter Try.func7, Try.ntmps7
      go_wp2_with fail
      refine (P1.out _).mono ?_
      rintro e w' ⟨rfl, rfl⟩
      go_wp2_with fail
      refine (P2.out _).mono ?_
      rintro e w' ⟨rfl, rfl⟩
      go_wp2_with fail
      refine (P3.out _).mono ?_
      rintro e w' ⟨rfl, rfl⟩
      go_wp2_with fail
      refine (P4.out _).mono ?_
      rintro e w' ⟨rfl, rfl⟩
      go_wp2_with fail
      refine (alive23 _).mono ?_
      rintro e w' ⟨rfl, hb⟩
      go_wp2_with fail
      go_ret
      exact ⟨rfl, hb⟩
  | false =>
    clear e11
    cases f3 <;> cases f4 <;> cases f5 <;> cases f6 <;> cases f7 <;> simp only [Bool.or_false, Bool.or_true, Bool.false_eq_true, Bool.and_true, Bool.and_false, Bool.not_false] at g1 ef e2' <;> subst ef <;> (try (exact g1.elim))
    all_goals
      clear g1
      go_enter Try.func7, Try.ntmps7
      go_wp2_with fail
      refine (P1.out _).mono ?_
      rintro e w' ⟨rfl, rfl⟩
      go_wp2_with fail
      refine (P2.out _).mono ?_
      rintro e w' ⟨rfl, rfl⟩
      go_wp2_with fail
      refine (P3.out _).mono ?_
      rintro e w' ⟨rfl, rfl⟩
      go_wp2_with fail
      refine (P4.out _).mono ?_
      rintro e w' ⟨rfl, rfl⟩
      go_wp2_with fail
      refine (alive23 _).mono ?_
      rintro e w' ⟨rfl, hb⟩
      go_wp2_with fail
      go_ret
      exact ⟨rfl, hb⟩
theorem walk (a b c d : Int) (w : World) : Calls Try.prog 7 #[.int .i64 a, .int .i64 b, .int .i64 c, .int .i64 d] w (WP w) := by
  rcases bE_some a b with h1 | ⟨h1, _⟩
  · rcases bE_some c d with h2 | ⟨h2, _⟩
    · obtain ⟨ra, rb, k1, v1, k2⟩ := bE_ok h1
      obtain ⟨rc, rd, k3, v2, k4⟩ := bE_ok h2
      have P1 := Lib.hid (fun W => blkKey a b W)
      have P2 := Lib.hid (fun W => blkKey c d W)
      have P3 := Lib.hid (fun W => volKey a W)
      have P4 := Lib.hid (fun W => volKey c W)
      unfold Key1P at P1 P2 P3 P4
      rw [h1] at P1
      rw [h2] at P2
      rw [v1] at P3
      rw [v2] at P4
      generalize bK a b = x at *
      generalize bK c d = y at *
      generalize vK a = k at *
      generalize vK c = l at *
      refine walk_yes a b c d x y k l P1 P2 P3 P4 (x == y) (a == c) (b == d) (decide (a < c)) (decide (c ≤ a)) (decide (x < l)) (decide (b < d)) rfl rfl rfl rfl ?_ ?_ ?_ rfl ?_ rfl rfl ?_ rfl ?_ ?_ w
      · rw [Bool.eq_iff_iff]; simp; omega
      · simp; omega
      · simp; omega
      · rw [Bool.eq_iff_iff]; simp; omega
      · simp; omega
      · intro hac
        have : a = c := by simpa using hac
        rw [Bool.eq_iff_iff]; simp; omega
      · simp; omega
    · exact walk_no a b c d _ _ _ _ _ _ _ _ (Lib.hid (fun W => blkKey a b W)) (Lib.hid (fun W => blkKey c d W)) (Lib.hid (fun W => volKey a W)) (Lib.hid (fun W => volKey c W)) (.inr ⟨by simpa using h1, by simpa using h2⟩) w
  · exact walk_no a b c d _ _ _ _ _ _ _ _ (Lib.hid (fun W => blkKey a b W)) (Lib.hid (fun W => blkKey c d W)) (Lib.hid (fun W => volKey a W)) (Lib.hid (fun W => volKey c W)) (.inl (by simpa using h1)) w

set_option maxRecDepth 100000 in
theorem lifted (os : Os) (started : os.Started) (H : Type) (enc : TypeId × Value → H) :
    ReturnsInHanded {} Try.checked os 7 .any (Rows.entryApartSpec.pre6 enc Try.prog Try.f7 Rows.entryApartRow.domain false) (Rows.entryApartSpec.post enc Try.prog Try.f7 false true false false) := by
  refine returnsInHanded_of_change (C := Try.checked) own started (by kernel_rfl) Try.func7
    (ChangeSpec.witness6 (enc := enc) (C := Try.checked) false ⟨#[], #[.int .i64 0, .int .i64 0, .int .i64 0, .int .i64 0], []⟩ 100 (by kernel_rfl) (by kernel_rfl) (by kernel_rfl) (by kernel_rfl)) ?_
  intro W base args ds gs before hval0 hW hcnd _
  have hval : ∀ (j : Nat) t v, Try.f7.params[j]? = some t → args[j]? = some v → Value.okWide Try.prog W .any base t v := hval0
  have hW' := hW
  obtain ⟨p, q, hA0, hV, rfl, hfz, hnd⟩ := hW
  have hA : DataW.TrodAll enc Try.prog W 0 (fun _ => true) true Try.f7.params.toList args.toList ds p := hA0
  rw [Try.params7] at hA hval
  obtain ⟨v0, vs0, d0, ds0, p0, q0, hargs, rfl, rfl, h0, r0⟩ := trodAll_cons hA
  obtain ⟨v1, vs1, d1, ds1, p1, q1, rfl, rfl, rfl, h1, r1⟩ := trodAll_cons r0
  obtain ⟨v2, vs2, d2, ds2, p2, q2, rfl, rfl, rfl, h2, r2⟩ := trodAll_cons r1
  obtain ⟨v3, vs3, d3, ds3, p3, q3, rfl, rfl, rfl, h3, r3⟩ := trodAll_cons r2
  obtain ⟨rfl, rfl, rfl⟩ := trodAll_nil r3
  obtain rfl : args = #[v0, v1, v2, v3] := by cases args; simp_all
  obtain ⟨rfl, rfl⟩ := trodVars_none hV
  obtain ⟨a0, rfl, rfl, rfl, w0⟩ := open_int Try.underlying3 (hval 0 3 v0 rfl rfl) h0
  have b0 := bounds_i64 w0
  obtain ⟨a1, rfl, rfl, rfl, w1⟩ := open_int Try.underlying3 (hval 1 3 v1 rfl rfl) h1
  have b1 := bounds_i64 w1
  obtain ⟨a2, rfl, rfl, rfl, w2⟩ := open_int Try.underlying3 (hval 2 3 v2 rfl rfl) h2
  have b2 := bounds_i64 w2
  obtain ⟨a3, rfl, rfl, rfl, w3⟩ := open_int Try.underlying3 (hval 3 3 v3 rfl rfl) h3
  have b3 := bounds_i64 w3
  refine (walk a0 a1 a2 a3 W).mono fun e W' ⟨he, hb⟩ => ?_
  subst he
  exact ⟨_, rfl, law_post hW' rfl rfl rfl (by kernel_rfl) hb⟩

/-- The statement. -/
theorem proved : Rows.EntryApartSaid :=
  OpenClaim.holds_of_wide 7 Try.f7 rfl rfl rfl rfl rfl rfl rfl ⟨rfl, rfl, rfl, rfl, rfl⟩ rfl rfl rfl rfl rfl (by kernel_rfl) Try.func7 (by kernel_rfl)
    (of_decide_eq_true (by kernel_rfl)) (by unfold Func.isWrapper; first | (rw [if_pos (by decide +kernel)]; kernel_rfl) | (rw [if_neg (by decide +kernel)]; exact ⟨rfl, rfl⟩))
    (fun os started H enc _ => lifted os started H enc)
#print axioms proved
end Go.Proofs.Ytbhkhkiidaemcaa.entryApart
