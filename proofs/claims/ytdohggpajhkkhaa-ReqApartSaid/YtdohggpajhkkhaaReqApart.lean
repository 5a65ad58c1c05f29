/-
  For any two requests the law ReqApart of package casematelaw28 returns true, and they read afterwards as before: unlike requests have unlike bytes. Condition: none.
-/
import Derived.Test.YtdohggpajhkkhaaRqQ
import Derived.Test.YtdohggpajhkkhaaL
namespace Go.Proofs.Ytdohggpajhkkhaa.reqApart
open Go.ChangeShapes Go.WideShapes Go.ChangeAt Go.RowKit
theorem walk (p : Rq) (dv : Value) {w0 : World} (hd : Sees w0 dv p.d) (hp : RQ (bare p)) (q : Rq) (du : Value) (he : Sees w0 du q.d) (hq : RQ (bare q)) (w : World) (hw : w = w0 := by rfl) :
    Calls Try.prog 5 #[.agg (rc p dv).toArray, .agg (rc q du).toArray] w (AliveP w) := by
  subst hw
  by_cases hg : 5000 < p.d.length ∨ 5000 < q.d.length
  · exact apart_great hp hq dv du _ hd he hg
  · have h5 : p.d.length ≤ 5000 := by omega
    have h6 : q.d.length ≤ 5000 := by omega
    have hp' := bare_rq hp (by omega)
    have hq' := bare_rq hq (by omega)
    cases hrp : rightQ p with
    | false => exact apart_none hp' hq' h5 h6 dv du _ hd he hrp
    | true =>
      cases hrq : rightQ q with
      | false => exact apart_one hp' hq' h5 h6 dv du _ hd he hrp hrq
      | true => exact apart_both hp' hq' h5 h6 dv du _ hd he hrp hrq

set_option maxRecDepth 100000 in
theorem lifted (os : Os) (started : os.Started) (H : Type) (enc : TypeId × Value → H) :
    ReturnsInHanded {} Try.checked os 5 .any (Rows.reqApartSpec.pre6 enc Try.prog Try.f5 Rows.reqApartRow.domain false) (Rows.reqApartSpec.post enc Try.prog Try.f5 false true false false) := by
  refine returnsInHanded_of_change (C := Try.checked) own started (by kernel_rfl) Try.func5
    (ChangeSpec.witness6 (enc := enc) (C := Try.checked) false ⟨#[], #[.agg (rc (pz 0) (.slice none 0 0)).toArray, .agg (rc (pz 0) (.slice none 0 0)).toArray], []⟩ 8 (by kernel_rfl) (by kernel_rfl) (by kernel_rfl) (by kernel_rfl)) ?_
  intro W base args ds gs before hval0 hW hcnd _
  have hval : ∀ (j : Nat) t v, Try.f5.params[j]? = some t → args[j]? = some v → Value.okWide Try.prog W .any base t v := hval0
  have hW' := hW
  obtain ⟨p, q, hA0, hV, rfl, hfz, hnd⟩ := hW
  have hA : DataW.TrodAll enc Try.prog W 0 (fun _ => true) true Try.f5.params.toList args.toList ds p := hA0
  rw [Try.params5] at hA hval
  obtain ⟨v0, vs0, d0, ds0, p0, q0, hargs, rfl, rfl, h0, r0⟩ := trodAll_cons hA
  obtain ⟨v1, vs1, d1, ds1, p1, q1, rfl, rfl, rfl, h1, r1⟩ := trodAll_cons r0
  obtain ⟨rfl, rfl, rfl⟩ := trodAll_nil r1
  obtain rfl : args = #[v0, v1] := by cases args; simp_all
  obtain ⟨rfl, rfl⟩ := trodVars_none hV
  obtain ⟨x0, dv0, rfl, s0, o0⟩ := open_req (hval 0 26 _ rfl rfl) h0
  obtain ⟨x1, dv1, rfl, s1, o1⟩ := open_req (hval 1 26 _ rfl rfl) h1
  refine (walk x0 dv0 s0 o0 x1 dv1 s1 o1 W).mono fun e W' ⟨he, hb⟩ => ?_
  subst he
  exact ⟨_, rfl, law_post hW' rfl rfl rfl (by kernel_rfl) hb⟩

/-- The statement. -/
theorem proved : Rows.ReqApartSaid :=
  OpenClaim.holds_of_wide 5 Try.f5 rfl rfl rfl rfl rfl rfl rfl ⟨rfl, rfl, rfl, rfl, rfl⟩ rfl rfl rfl rfl rfl (by kernel_rfl) Try.func5 (by kernel_rfl)
    (of_decide_eq_true (by kernel_rfl)) (by unfold Func.isWrapper; first | (rw [if_pos (by decide +kernel)]; kernel_rfl) | (rw [if_neg (by decide +kernel)]; exact ⟨rfl, rfl⟩))
    (fun os started H enc _ => lifted os started H enc)
#print axioms proved
end Go.Proofs.Ytdohggpajhkkhaa.reqApart
