/-
  For any reply and any bytes the law ReplyBack of package casematelaw29 returns true, and they read afterwards as before: replies go there and back, in one way alone. Condition: none.
-/
import Derived.Test.YtabopcfhonkecaaRpR
import Derived.Test.YtabopcfhonkecaaRpO
namespace Go.Proofs.Ytabopcfhonkecaa.replyBack
open Go.ChangeShapes Go.WideShapes Go.ChangeAt Go.RowKit
theorem walk (p : Ry) (dv : Value) {w0 : World} (hd : Sees w0 dv p.d) (u : Value) (xs : List Int) (hu : Sees w0 u xs) (w : World) (hw : w = w0 := by rfl) :
    Calls Try.prog 5 #[.agg (rc p dv).toArray, u] w (AliveP w) := by
  subst hw
  by_cases hg : 5000 < p.d.length ∨ 5000 < xs.length
  · exact back_great dv u xs _ hd hu hg
  · have h5 : p.d.length ≤ 5000 := by omega
    have h6 : xs.length ≤ 5000 := by omega
    cases hr : mayB p with
    | false =>
      cases hk : decB xs with
      | false => exact back_ff h5 dv u xs h6 _ hd hu hr hk
      | true => exact back_ft h5 dv u xs h6 _ hd hu hr hk
    | true =>
      cases hk : decB xs with
      | false => exact back_tf h5 dv u xs h6 _ hd hu hr hk
      | true => exact back_tt h5 dv u xs h6 _ hd hu hr hk

set_option maxRecDepth 100000 in
theorem lifted (os : Os) (started : os.Started) (H : Type) (enc : TypeId × Value → H) :
    ReturnsInHanded {} Try.checked os 5 .any (Rows.replyBackSpec.pre6 enc Try.prog Try.f5 Rows.replyBackRow.domain false) (Rows.replyBackSpec.post enc Try.prog Try.f5 false true false false) := by
  refine returnsInHanded_of_change (C := Try.checked) own started (by kernel_rfl) Try.func5
    (ChangeSpec.witness6 (enc := enc) (C := Try.checked) false ⟨#[], #[.agg (rc ⟨0, 0, []⟩ (.slice none 0 0)).toArray, .slice none 0 0], []⟩ 8 (by kernel_rfl) (by kernel_rfl) (by kernel_rfl) (by kernel_rfl)) ?_
  intro W base args ds gs before hval0 hW hcnd _
  have hval : ∀ (j : Nat) t v, Try.f5.params[j]? = some t → args[j]? = some v → Value.okWide Try.prog W .any base t v := hval0
  have hW' := hW
  obtain ⟨p, q, hA0, hV, rfl, hfz, hnd⟩ := hW
  have hA : DataW.TrodAll enc Try.prog W 0 (fun _ => true) true Try.f5.params.toList args.toList ds p := hA0
  rw [Try.params5] at hA hval
  obtain ⟨v0, vs0, d0, ds0, p0, q0, hargs, rfl, rfl, h0, r0⟩ := trodAll_cons hA
  obtain ⟨v1, vs1, d1, ds1, p1, q1, rfl, rfl, rfl, h1, r1⟩ := trodAll_cons r0
  obtain ⟨rfl, rfl, rfl⟩ := trodAll_nil r1
  obtain rfl : args = #[v0, v1] := by cases args; simp_all
  obtain ⟨rfl, rfl⟩ := trodVars_none hV
  obtain ⟨x0, dv0, rfl, s0, _⟩ := open_rep (hval 0 25 _ rfl rfl) h0
  obtain ⟨x1, s1⟩ := open_sees (hval 1 23 _ rfl rfl) h1
  refine (walk x0 dv0 s0 _ x1 s1 W).mono fun e W' ⟨he, hb⟩ => ?_
  subst he
  exact ⟨_, rfl, law_post hW' rfl rfl rfl (by kernel_rfl) hb⟩

/-- The statement. -/
theorem proved : Rows.ReplyBackSaid :=
  OpenClaim.holds_of_wide 5 Try.f5 rfl rfl rfl rfl rfl rfl rfl ⟨rfl, rfl, rfl, rfl, rfl⟩ rfl rfl rfl rfl rfl (by kernel_rfl) Try.func5 (by kernel_rfl)
    (of_decide_eq_true (by kernel_rfl)) (by unfold Func.isWrapper; first | (rw [if_pos (by decide +kernel)]; kernel_rfl) | (rw [if_neg (by decide +kernel)]; exact ⟨rfl, rfl⟩))
    (fun os started H enc _ => lifted os started H enc)
#print axioms proved
end Go.Proofs.Ytabopcfhonkecaa.replyBack
