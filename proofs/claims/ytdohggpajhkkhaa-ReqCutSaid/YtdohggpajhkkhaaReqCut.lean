/-
  For any request, any number and any byte the law ReqCut of package casematelaw28 returns true, and they read afterwards as before: bytes that are cut short, or of which one more stands behind, are another request, or none. Condition: none.
-/
import Derived.Test.YtdohggpajhkkhaaRqTV
import Derived.Test.YtdohggpajhkkhaaRqTA
import Derived.Test.YtdohggpajhkkhaaRqTB
import Derived.Test.YtdohggpajhkkhaaRqTC
import Derived.Test.YtdohggpajhkkhaaL
namespace Go.Proofs.Ytdohggpajhkkhaa.reqCut
open Go.ChangeShapes Go.WideShapes Go.ChangeAt Go.RowKit
theorem walk (p : Rq) (dv : Value) {w0 : World} (hd : Sees w0 dv p.d) (hp : RQ (bare p)) (at_ : Int) (hat : -9223372036854775808 ≤ at_ ∧ at_ ≤ 9223372036854775807) (m : Int) (hm : 0 ≤ m ∧ m ≤ 255) (w : World) (hw : w = w0 := by rfl) :
    Calls Try.prog 6 #[.agg (rc p dv).toArray, .int .i64 at_, .int .u8 m] w (AliveP w) := by
  subst hw
  by_cases hg : 5000 < p.d.length
  · exact cut_great hp dv at_ m _ hd hg
  · have h5 : p.d.length ≤ 5000 := by omega
    have hp' := bare_rq hp (by omega)
    cases hr : rightQ p with
    | false => exact cut_no hp' h5 dv at_ m _ hd hr
    | true =>
      by_cases hn : at_ < 0
      · exact cut_neg hp' h5 dv at_ m _ hd hr hn
      · by_cases hf : ((encV p).length : Int) ≤ at_
        · exact cut_far hp' h5 dv at_ m _ hd hr hf
        · have hk : at_ = (at_.toNat : Int) := by omega
          have hkn : at_.toNat < (encV p).length := by omega
          by_cases h4 : p.k = 4
          · by_cases h7 : 7 < at_.toNat
            · by_cases h512 : (at_.toNat - 7) % 512 = 0
              · exact cut_b hp' h5 dv at_ hat m hm _ hd hr at_.toNat hk hkn h4 h7 h512
              · exact cut_c hp' h5 dv at_ hat m hm _ hd hr at_.toNat hk hkn h4 h7 h512
            · exact cut_a hp' h5 dv at_ hat m hm _ hd hr at_.toNat hk hkn h4 h7
          · exact cut_v hp' h5 dv at_ hat m hm _ hd hr at_.toNat hk hkn h4

set_option maxRecDepth 100000 in
theorem lifted (os : Os) (started : os.Started) (H : Type) (enc : TypeId × Value → H) :
    ReturnsInHanded {} Try.checked os 6 .any (Rows.reqCutSpec.pre6 enc Try.prog Try.f6 Rows.reqCutRow.domain false) (Rows.reqCutSpec.post enc Try.prog Try.f6 false true false false) := by
  refine returnsInHanded_of_change (C := Try.checked) own started (by kernel_rfl) Try.func6
    (ChangeSpec.witness6 (enc := enc) (C := Try.checked) false ⟨#[], #[.agg (rc (pz 0) (.slice none 0 0)).toArray, .int .i64 0, .int .u8 0], []⟩ 8 (by kernel_rfl) (by kernel_rfl) (by kernel_rfl) (by kernel_rfl)) ?_
  intro W base args ds gs before hval0 hW hcnd _
  have hval : ∀ (j : Nat) t v, Try.f6.params[j]? = some t → args[j]? = some v → Value.okWide Try.prog W .any base t v := hval0
  have hW' := hW
  obtain ⟨p, q, hA0, hV, rfl, hfz, hnd⟩ := hW
  have hA : DataW.TrodAll enc Try.prog W 0 (fun _ => true) true Try.f6.params.toList args.toList ds p := hA0
  rw [Try.params6] at hA hval
  obtain ⟨v0, vs0, d0, ds0, p0, q0, hargs, rfl, rfl, h0, r0⟩ := trodAll_cons hA
  obtain ⟨v1, vs1, d1, ds1, p1, q1, rfl, rfl, rfl, h1, r1⟩ := trodAll_cons r0
  obtain ⟨v2, vs2, d2, ds2, p2, q2, rfl, rfl, rfl, h2, r2⟩ := trodAll_cons r1
  obtain ⟨rfl, rfl, rfl⟩ := trodAll_nil r2
  obtain rfl : args = #[v0, v1, v2] := by cases args; simp_all
  obtain ⟨rfl, rfl⟩ := trodVars_none hV
  obtain ⟨x0, dv0, rfl, s0, o0⟩ := open_req (hval 0 26 _ rfl rfl) h0
  obtain ⟨x1, rfl, rfl, rfl, w1⟩ := open_int Try.underlying3 (hval 1 3 v1 rfl rfl) h1
  have y1 := bounds_i64 w1
  obtain ⟨x2, rfl, rfl, rfl, w2⟩ := open_int Try.underlying5 (hval 2 5 v2 rfl rfl) h2
  have y2 := bounds_u8 w2
  refine (walk x0 dv0 s0 o0 x1 y1 x2 y2 W).mono fun e W' ⟨he, hb⟩ => ?_
  subst he
  exact ⟨_, rfl, law_post hW' rfl rfl rfl (by kernel_rfl) hb⟩

/-- The statement. -/
theorem proved : Rows.ReqCutSaid :=
  OpenClaim.holds_of_wide 6 Try.f6 rfl rfl rfl rfl rfl rfl rfl ⟨rfl, rfl, rfl, rfl, rfl⟩ rfl rfl rfl rfl rfl (by kernel_rfl) Try.func6 (by kernel_rfl)
    (of_decide_eq_true (by kernel_rfl)) (by unfold Func.isWrapper; first | (rw [if_pos (by decide +kernel)]; kernel_rfl) | (rw [if_neg (by decide +kernel)]; exact ⟨rfl, rfl⟩))
    (fun os started H enc _ => lifted os started H enc)
#print axioms proved
end Go.Proofs.Ytdohggpajhkkhaa.reqCut
