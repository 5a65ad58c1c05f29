/-
  For any status and any bytes the law ReplyStatusBack of package casematelaw29 returns true, and they read afterwards as before: statuses go there and back, in one way alone. Condition: none.
-/
import Derived.Test.YtabopcfhonkecaaRpT
import Derived.Test.YtabopcfhonkecaaRpO
namespace Go.Proofs.Ytabopcfhonkecaa.replyStatusBack
open Go.ChangeShapes Go.WideShapes Go.ChangeAt Go.RowKit
theorem walk (L : List Int) (hl : L.length = 19) {w0 : World} (u : Value) (xs : List Int) (hu : Sees w0 u xs) (w : World) (hw : w = w0 := by rfl) :
    Calls Try.prog 6 #[.agg (sc L).toArray, u] w (AliveP w) := by
  subst hw
  by_cases hg : 200 < xs.length
  · exact stback_great u xs _ hu hg
  · have h6 : xs.length ≤ 200 := by omega
    by_cases hk : xs.length = 38
    · cases hr : wB L with
      | false => exact stback_ft hl u xs h6 _ hu hr hk
      | true => exact stback_tt hl u xs h6 _ hu hr hk
    · cases hr : wB L with
      | false => exact stback_ff hl u xs h6 _ hu hr hk
      | true => exact stback_tf hl u xs h6 _ hu hr hk

set_option maxRecDepth 100000 in
theorem lifted (os : Os) (started : os.Started) (H : Type) (enc : TypeId × Value → H) :
    ReturnsInHanded {} Try.checked os 6 .any (Rows.replyStatusBackSpec.pre6 enc Try.prog Try.f6 Rows.replyStatusBackRow.domain false) (Rows.replyStatusBackSpec.post enc Try.prog Try.f6 false true false false) := by
  refine returnsInHanded_of_change (C := Try.checked) own started (by kernel_rfl) Try.func6
    (ChangeSpec.witness6 (enc := enc) (C := Try.checked) false ⟨#[], #[.agg (sc zL).toArray, .slice none 0 0], []⟩ 8 (by kernel_rfl) (by kernel_rfl) (by kernel_rfl) (by kernel_rfl)) ?_
  intro W base args ds gs before hval0 hW hcnd _
  have hval : ∀ (j : Nat) t v, Try.f6.params[j]? = some t → args[j]? = some v → Value.okWide Try.prog W .any base t v := hval0
  have hW' := hW
  obtain ⟨p, q, hA0, hV, rfl, hfz, hnd⟩ := hW
  have hA : DataW.TrodAll enc Try.prog W 0 (fun _ => true) true Try.f6.params.toList args.toList ds p := hA0
  rw [Try.params6] at hA hval
  obtain ⟨v0, vs0, d0, ds0, p0, q0, hargs, rfl, rfl, h0, r0⟩ := trodAll_cons hA
  obtain ⟨v1, vs1, d1, ds1, p1, q1, rfl, rfl, rfl, h1, r1⟩ := trodAll_cons r0
  obtain ⟨rfl, rfl, rfl⟩ := trodAll_nil r1
  obtain rfl : args = #[v0, v1] := by cases args; simp_all
  obtain ⟨rfl, rfl⟩ := trodVars_none hV
  obtain ⟨x0, s0, rfl⟩ := open_st (hval 0 41 _ rfl rfl) h0
  obtain ⟨x1, s1⟩ := open_sees (hval 1 23 _ rfl rfl) h1
  refine (walk x0 s0 _ x1 s1 W).mono fun e W' ⟨he, hb⟩ => ?_
  subst he
  exact ⟨_, rfl, law_post hW' rfl rfl rfl (by kernel_rfl) hb⟩

/-- The statement. -/
theorem proved : Rows.ReplyStatusBackSaid :=
  OpenClaim.holds_of_wide 6 Try.f6 rfl rfl rfl rfl rfl rfl rfl ⟨rfl, rfl, rfl, rfl, rfl⟩ rfl rfl rfl rfl rfl (by kernel_rfl) Try.func6 (by kernel_rfl)
    (of_decide_eq_true (by kernel_rfl)) (by unfold Func.isWrapper; first | (rw [if_pos (by decide +kernel)]; kernel_rfl) | (rw [if_neg (by decide +kernel)]; exact ⟨rfl, rfl⟩))
    (fun os started H enc _ => lifted os started H enc)
#print axioms proved
end Go.Proofs.Ytabopcfhonkecaa.replyStatusBack
