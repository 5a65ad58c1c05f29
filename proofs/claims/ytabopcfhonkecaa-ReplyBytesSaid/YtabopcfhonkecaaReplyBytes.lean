/-
  For any two replies and any bytes the law ReplyBytes of package casematelaw29 returns true, and they read afterwards as before: which replies may be, the bytes of each, and the reply that any bytes are, is told, and nothing is shared. Condition: none.
-/
import Derived.Test.YtabopcfhonkecaaRpS
import Derived.Test.YtabopcfhonkecaaRpO
namespace Go.Proofs.Ytabopcfhonkecaa.replyBytes
open Go.ChangeShapes Go.WideShapes Go.ChangeAt Go.RowKit
theorem walk (p : Ry) (dv : Value) {w0 : World} (hd : Sees w0 dv p.d) (q : Ry) (du : Value) (he : Sees w0 du q.d) (u : Value) (xs : List Int) (hu : Sees w0 u xs) (w : World) (hw : w = w0 := by rfl) :
    Calls Try.prog 3 #[.agg (rc p dv).toArray, .agg (rc q du).toArray, u] w (AliveP w) := by
  subst hw
  by_cases hg : 5000 < p.d.length ∨ 5000 < q.d.length ∨ 5000 < xs.length
  · exact bytes_great dv du u xs _ hd he hu hg
  · exact bytes_ok (by omega) (by omega) dv du u xs (by omega) _ hd he hu

set_option maxRecDepth 100000 in
theorem lifted (os : Os) (started : os.Started) (H : Type) (enc : TypeId × Value → H) :
    ReturnsInHanded {} Try.checked os 3 .any (Rows.replyBytesSpec.pre6 enc Try.prog Try.f3 Rows.replyBytesRow.domain false) (Rows.replyBytesSpec.post enc Try.prog Try.f3 false true false false) := by
  refine returnsInHanded_of_change (C := Try.checked) own started (by kernel_rfl) Try.func3
    (ChangeSpec.witness6 (enc := enc) (C := Try.checked) false ⟨#[], #[.agg (rc ⟨0, 0, []⟩ (.slice none 0 0)).toArray, .agg (rc ⟨0, 0, []⟩ (.slice none 0 0)).toArray, .slice none 0 0], []⟩ 8 (by kernel_rfl) (by kernel_rfl) (by kernel_rfl) (by kernel_rfl)) ?_
  intro W base args ds gs before hval0 hW hcnd _
  have hval : ∀ (j : Nat) t v, Try.f3.params[j]? = some t → args[j]? = some v → Value.okWide Try.prog W .any base t v := hval0
  have hW' := hW
  obtain ⟨p, q, hA0, hV, rfl, hfz, hnd⟩ := hW
  have hA : DataW.TrodAll enc Try.prog W 0 (fun _ => true) true Try.f3.params.toList args.toList ds p := hA0
  rw [Try.params3] at hA hval
  obtain ⟨v0, vs0, d0, ds0, p0, q0, hargs, rfl, rfl, h0, r0⟩ := trodAll_cons hA
  obtain ⟨v1, vs1, d1, ds1, p1, q1, rfl, rfl, rfl, h1, r1⟩ := trodAll_cons r0
  obtain ⟨v2, vs2, d2, ds2, p2, q2, rfl, rfl, rfl, h2, r2⟩ := trodAll_cons r1
  obtain ⟨rfl, rfl, rfl⟩ := trodAll_nil r2
  obtain rfl : args = #[v0, v1, v2] := by cases args; simp_all
  obtain ⟨rfl, rfl⟩ := trodVars_none hV
  obtain ⟨x0, dv0, rfl, s0, _⟩ := open_rep (hval 0 25 _ rfl rfl) h0
  obtain ⟨x1, dv1, rfl, s1, _⟩ := open_rep (hval 1 25 _ rfl rfl) h1
  obtain ⟨x2, s2⟩ := open_sees (hval 2 23 _ rfl rfl) h2
  refine (walk x0 dv0 s0 x1 dv1 s1 _ x2 s2 W).mono fun e W' ⟨he, hb⟩ => ?_
  subst he
  exact ⟨_, rfl, law_post hW' rfl rfl rfl (by kernel_rfl) hb⟩

/-- The statement. -/
theorem proved : Rows.ReplyBytesSaid :=
  OpenClaim.holds_of_wide 3 Try.f3 rfl rfl rfl rfl rfl rfl rfl ⟨rfl, rfl, rfl, rfl, rfl⟩ rfl rfl rfl rfl rfl (by kernel_rfl) Try.func3 (by kernel_rfl)
    (of_decide_eq_true (by kernel_rfl)) (by unfold Func.isWrapper; first | (rw [if_pos (by decide +kernel)]; kernel_rfl) | (rw [if_neg (by decide +kernel)]; exact ⟨rfl, rfl⟩))
    (fun os started H enc _ => lifted os started H enc)
#print axioms proved
end Go.Proofs.Ytabopcfhonkecaa.replyBytes
