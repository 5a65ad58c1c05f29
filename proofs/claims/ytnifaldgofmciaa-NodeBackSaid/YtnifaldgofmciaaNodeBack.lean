/-
  For every node and every slice of bytes the law NodeBack of package casematelaw13 returns true, and they read afterwards as before: nodes go there and back, in one way alone. Condition: none.
-/
import Derived.Test.YtnifaldgofmciaaNdX
namespace Go.Proofs.Ytnifaldgofmciaa.nodeBack
open Go.ChangeShapes Go.WideShapes Go.ChangeAt Go.RowKit
open oc (Byt Sees)
theorem walk (n : NV) (hok : n.okP) (hf : ∀ p ∈ n.qs, 0 ≤ p.1 ∧ p.1 ≤ 4294967295) (v u : Value) (xs : List Int) (w : World) (hv : ND w v n) (hs : Sees w u xs) : Calls Try.prog 4 #[v, u] w (AliveP w) := by
  cases hg : greatB n with
  | true =>
    obtain ⟨x, cap, rfl, _⟩ := hs.form
    exact walk_great n v x _ cap w hv hg
  | false =>
    by_cases hl : xs.length ≤ 2000
    · cases hr : rightB n.leaf n.ks n.vs.length n.qs.length with
      | true =>
        cases hx : isN xs with
        | true => exact walk_yes_is n hok hf v u xs w hv hs hg hl hr hx
        | false => exact walk_yes_not n hok hf v u xs w hv hs hg hl hr hx
      | false =>
        cases hx : isN xs with
        | true => exact walk_no_is n hf v u xs w hv hs hg hl hr hx
        | false => exact walk_no_not n hf v u xs w hv hs hg hl hr hx
    · obtain ⟨x, cap, rfl, h63⟩ := hs.form
      exact walk_long n v x _ cap w hv hg (by omega) h63

set_option maxRecDepth 100000 in
theorem lifted (os : Os) (started : os.Started) (H : Type) (enc : TypeId × Value → H) :
    ReturnsInHanded {} Try.checked os 4 .any (Rows.nodeBackSpec.pre6 enc Try.prog Try.f4 Rows.nodeBackRow.domain false) (Rows.nodeBackSpec.post enc Try.prog Try.f4 false true false false) := by
  refine returnsInHanded_of_change (C := Try.checked) own started (by kernel_rfl) Try.func4
    (ChangeSpec.witness6 (enc := enc) (C := Try.checked) false ⟨#[], #[.agg #[.bool false, .slice none 0 0, .slice none 0 0, .slice none 0 0], .slice none 0 0], []⟩ 8 (by kernel_rfl) (by kernel_rfl) (by kernel_rfl) (by kernel_rfl)) ?_
  intro W base args ds gs before hval0 hW hcnd _
  have hval : ∀ (j : Nat) t v, Try.f4.params[j]? = some t → args[j]? = some v → Value.okWide Try.prog W .any base t v := hval0
  have hW' := hW
  obtain ⟨p, q, hA0, hV, rfl, hfz, hnd⟩ := hW
  have hA : DataW.TrodAll enc Try.prog W 0 (fun _ => true) true Try.f4.params.toList args.toList ds p := hA0
  rw [Try.params4] at hA hval
  obtain ⟨v0, vs0, d0, ds0, p0, q0, hargs, rfl, rfl, h0, r0⟩ := trodAll_cons hA
  obtain ⟨v1, vs1, d1, ds1, p1, q1, rfl, rfl, rfl, h1, r1⟩ := trodAll_cons r0
  obtain ⟨rfl, rfl, rfl⟩ := trodAll_nil r1
  obtain rfl : args = #[v0, v1] := by cases args; simp_all
  obtain ⟨rfl, rfl⟩ := trodVars_none hV
  obtain ⟨n, hn, hok, hf⟩ := open_node (hval 0 26 v0 rfl rfl) h0
  obtain ⟨x1, s1⟩ := open_sees (hval 1 27 v1 rfl rfl) h1
  refine (walk n hok hf v0 v1 x1 W hn s1).mono fun e W' ⟨he, hb⟩ => ?_
  subst he
  exact ⟨_, rfl, law_post hW' rfl rfl rfl (by kernel_rfl) hb⟩

/-- The statement. -/
theorem proved : Rows.NodeBackSaid :=
  OpenClaim.holds_of_wide 4 Try.f4 rfl rfl rfl rfl rfl rfl rfl ⟨rfl, rfl, rfl, rfl, rfl⟩ rfl rfl rfl rfl rfl (by kernel_rfl) Try.func4 (by kernel_rfl)
    (of_decide_eq_true (by kernel_rfl)) (by unfold Func.isWrapper; first | (rw [if_pos (by decide +kernel)]; kernel_rfl) | (rw [if_neg (by decide +kernel)]; exact ⟨rfl, rfl⟩))
    (fun os started H enc _ => lifted os started H enc)
#print axioms proved
end Go.Proofs.Ytnifaldgofmciaa.nodeBack
