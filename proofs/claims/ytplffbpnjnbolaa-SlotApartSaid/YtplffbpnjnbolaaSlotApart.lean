/-
  For all pairs of tenants and copies the law SlotApart of package casematelaw20 returns true: unlike places have unlike sectors, from 2 to 17. Condition: none.
-/
import Derived.Test.YtplffbpnjnbolaaSlF
import Derived.Test.YtplffbpnjnbolaaL
namespace Go.Proofs.Ytplffbpnjnbolaa.slotApart
open Go.ChangeShapes Go.WideShapes Go.ChangeAt Go.RowKit
theorem pl_cases (a b : Int) : (plE a b = 1 ∧ plV a b = 0) ∨ (plE a b = 0 ∧ plV a b = 2 * a + b ∧ 1 ≤ a ∧ a ≤ 8 ∧ 0 ≤ b ∧ b ≤ 1) := by
  unfold plE plV
  by_cases h : a < 1 ∨ 8 < a ∨ b < 0 ∨ 2 ≤ b
  · rw [if_pos h, if_pos h]; exact .inl ⟨rfl, rfl⟩
  · rw [if_neg h, if_neg h]; exact .inr ⟨rfl, rfl, by omega⟩
theorem walk (a b c d : Int) (w : World) : Calls Try.prog 10 #[.int .i64 a, .int .i64 b, .int .i64 c, .int .i64 d] w fun e w' => e = .returned (.bool true) ∧ Below w.heap.size w w' := by
  have P1 := Lib.hid (fun W => place a b W)
  have P2 := Lib.hid (fun W => place c d W)
  unfold PlaceP at P1 P2
  rcases pl_cases a b with ⟨e1, e2⟩ | ⟨e1, e2, e3⟩
  · rw [e1, e2] at P1
    rcases pl_cases c d with ⟨f1, f2⟩ | ⟨f1, f2, f3⟩
    · rw [f1, f2] at P2
      clear e1 e2 f1 f2
      go_enter Try.func10, Try.ntmps10
      go_wp2_with fail
      refine (P1.out _).mono ?_
      rintro e w' ⟨rfl, rfl⟩
      go_wp2_with fail
      refine (P2.out _).mono ?_
      rintro e w' ⟨rfl, rfl⟩
      go_wp2_with fail
      refine (alive20 _).mono ?_
      rintro e w' ⟨rfl, hb⟩
      go_wp2_with fail
      go_ret
      exact ⟨rfl, hb⟩
    · rw [f1, f2] at P2
      clear e1 e2 f1 f2 f3
      go_enter Try.func10, Try.ntmps10
      go_wp2_with fail
      refine (P1.out _).mono ?_
      rintro e w' ⟨rfl, rfl⟩
      go_wp2_with fail
      refine (P2.out _).mono ?_
      rintro e w' ⟨rfl, rfl⟩
      go_wp2_with fail
      refine (alive20 _).mono ?_
      rintro e w' ⟨rfl, hb⟩
      go_wp2_with fail
      go_ret
      exact ⟨rfl, hb⟩
  · rw [e1, e2] at P1
    rcases pl_cases c d with ⟨f1, f2⟩ | ⟨f1, f2, f3⟩
    · rw [f1, f2] at P2
      clear e1 e2 f1 f2 e3
      go_enter Try.func10, Try.ntmps10
      go_wp2_with fail
      refine (P1.out _).mono ?_
      rintro e w' ⟨rfl, rfl⟩
      go_wp2_with fail
      refine (P2.out _).mono ?_
      rintro e w' ⟨rfl, rfl⟩
      go_wp2_with fail
      refine (alive20 _).mono ?_
      rintro e w' ⟨rfl, hb⟩
      go_wp2_with fail
      go_ret
      exact ⟨rfl, hb⟩
    · rw [f1, f2] at P2
      have r1 : (2 : Int) ≤ 2 * a + b := by omega
      have r2 : 2 * a + b ≤ 17 := by omega
      have r3 : (2 : Int) ≤ 2 * c + d := by omega
      have r4 : 2 * c + d ≤ 17 := by omega
      by_cases hac : a = c
      · by_cases hbd : b = d
        · subst hac hbd
          clear e1 e2 f1 f2 e3 f3
          generalize 2 * a + b = p at *
          go_enter Try.func10, Try.ntmps10
          go_wp2_with fail
          refine (P1.out _).mono ?_
          rintro e w' ⟨rfl, rfl⟩
          go_wp2_with fail
          refine (P2.out _).mono ?_
          rintro e w' ⟨rfl, rfl⟩
          go_wp2_with fail
          refine (alive20 _).mono ?_
          rintro e w' ⟨rfl, hb⟩
          go_wp2_with fail
          go_ret
          exact ⟨rfl, hb⟩
        · have hpq : (2 * a + b == 2 * c + d) = false := by rw [beq_eq_false_iff_ne]; omega
          subst hac
          have hb1 : (b == d) = false := by rw [beq_eq_false_iff_ne]; exact hbd
          clear e1 e2 f1 f2 e3 f3
          generalize 2 * a + b = p at *
          generalize 2 * a + d = q at *
          go_enter Try.func10, Try.ntmps10
          go_wp2_with fail
          refine (P1.out _).mono ?_
          rintro e w' ⟨rfl, rfl⟩
          go_wp2_with fail
          refine (P2.out _).mono ?_
          rintro e w' ⟨rfl, rfl⟩
          go_wp2_with fail
          refine (alive20 _).mono ?_
          rintro e w' ⟨rfl, hb⟩
          go_wp2_with fail
          go_ret
          exact ⟨rfl, hb⟩
      · have hpq : (2 * a + b == 2 * c + d) = false := by rw [beq_eq_false_iff_ne]; omega
        have ha1 : (a == c) = false := by rw [beq_eq_false_iff_ne]; exact hac
        clear e1 e2 f1 f2 e3 f3
        generalize 2 * a + b = p at *
        generalize 2 * c + d = q at *
        go_enter Try.func10, Try.ntmps10
        go_wp2_with fail
        refine (P1.out _).mono ?_
        rintro e w' ⟨rfl, rfl⟩
        go_wp2_with fail
        refine (P2.out _).mono ?_
        rintro e w' ⟨rfl, rfl⟩
        go_wp2_with fail
        refine (alive20 _).mono ?_
        rintro e w' ⟨rfl, hb⟩
        go_wp2_with fail
        go_ret
        exact ⟨rfl, hb⟩

set_option maxRecDepth 100000 in
theorem lifted (os : Os) (started : os.Started) (H : Type) (enc : TypeId × Value → H) :
    ReturnsInHanded {} Try.checked os 10 .any (Rows.slotApartSpec.pre6 enc Try.prog Try.f10 Rows.slotApartRow.domain false) (Rows.slotApartSpec.post enc Try.prog Try.f10 false true false false) := by
  refine returnsInHanded_of_change (C := Try.checked) own started (by kernel_rfl) Try.func10
    (ChangeSpec.witness6 (enc := enc) (C := Try.checked) false ⟨#[], #[.int .i64 0, .int .i64 0, .int .i64 0, .int .i64 0], []⟩ 8 (by kernel_rfl) (by kernel_rfl) (by kernel_rfl) (by kernel_rfl)) ?_
  intro W base args ds gs before hval0 hW hcnd _
  have hval : ∀ (j : Nat) t v, Try.f10.params[j]? = some t → args[j]? = some v → Value.okWide Try.prog W .any base t v := hval0
  have hW' := hW
  obtain ⟨p, q, hA0, hV, rfl, hfz, hnd⟩ := hW
  have hA : DataW.TrodAll enc Try.prog W 0 (fun _ => true) true Try.f10.params.toList args.toList ds p := hA0
  rw [Try.params10] at hA hval
  obtain ⟨v0, vs0, d0, ds0, p0, q0, hargs, rfl, rfl, h0, r0⟩ := trodAll_cons hA
  obtain ⟨v1, vs1, d1, ds1, p1, q1, rfl, rfl, rfl, h1, r1⟩ := trodAll_cons r0
  obtain ⟨v2, vs2, d2, ds2, p2, q2, rfl, rfl, rfl, h2, r2⟩ := trodAll_cons r1
  obtain ⟨v3, vs3, d3, ds3, p3, q3, rfl, rfl, rfl, h3, r3⟩ := trodAll_cons r2
  obtain ⟨rfl, rfl, rfl⟩ := trodAll_nil r3
  obtain rfl : args = #[v0, v1, v2, v3] := by cases args; simp_all
  obtain ⟨rfl, rfl⟩ := trodVars_none hV
  obtain ⟨a0, rfl, rfl, rfl, w0⟩ := open_int Try.underlying3 (hval 0 3 v0 rfl rfl) h0
  have b0 := bounds_i64 w0
  obtain ⟨a1, rfl, rfl, rfl, w1⟩ := open_int Try.underlying3 (hval 1 3 v1 rfl rfl) h1
  have b1 := bounds_i64 w1
  obtain ⟨a2, rfl, rfl, rfl, w2⟩ := open_int Try.underlying3 (hval 2 3 v2 rfl rfl) h2
  have b2 := bounds_i64 w2
  obtain ⟨a3, rfl, rfl, rfl, w3⟩ := open_int Try.underlying3 (hval 3 3 v3 rfl rfl) h3
  have b3 := bounds_i64 w3
  refine (walk a0 a1 a2 a3 W).mono fun e W' ⟨he, hb⟩ => ?_
  subst he
  exact ⟨_, rfl, law_post hW' rfl rfl rfl (by kernel_rfl) hb⟩

/-- The statement. -/
theorem proved : Rows.SlotApartSaid :=
  OpenClaim.holds_of_wide 10 Try.f10 rfl rfl rfl rfl rfl rfl rfl ⟨rfl, rfl, rfl, rfl, rfl⟩ rfl rfl rfl rfl rfl (by kernel_rfl) Try.func10 (by kernel_rfl)
    (of_decide_eq_true (by kernel_rfl)) (by unfold Func.isWrapper; first | (rw [if_pos (by decide +kernel)]; kernel_rfl) | (rw [if_neg (by decide +kernel)]; exact ⟨rfl, rfl⟩))
    (fun os started H enc _ => lifted os started H enc)
#print axioms proved
end Go.Proofs.Ytplffbpnjnbolaa.slotApart
