/-
  For any two nodes and every slice of bytes the law NodeBytes of package casematelaw13 returns true, and all read afterwards as before: a node's bytes are the document's, and it is told and refused as the document does. Condition: none.
-/
import Derived.Test.YtnifaldgofmciaaNdX
import Derived.Test.YtnifaldgofmciaaNfJ
namespace Go.Proofs.Ytnifaldgofmciaa.nodeBytes
open Go.ChangeShapes Go.WideShapes Go.ChangeAt Go.RowKit
open oc (Byt Sees)
theorem walk (n m : NV) (fn : ∀ p ∈ n.qs, 0 ≤ p.1 ∧ p.1 ≤ 4294967295) (fm : ∀ p ∈ m.qs, 0 ≤ p.1 ∧ p.1 ≤ 4294967295) (v u b : Value) (xs : List Int) (w : World) (hv : ND w v n) (hu : ND w u m) (hs : Sees w b xs) : Calls Try.prog 3 #[v, u, b] w (AliveP w) := by
  obtain ⟨K, V, Q, rfl, _⟩ := id hv
  obtain ⟨K2, V2, Q2, rfl, _⟩ := id hu
  cases hg : greatB n with
  | true => exact bytes_gn _ _ n m xs b w hv hu hs hg
  | false =>
    cases hgm : greatB m with
    | true => exact bytes_gm _ _ n m xs b w hv hu hs hg hgm
    | false =>
      by_cases hl : xs.length ≤ 2000
      · cases hx : isN xs with
        | true =>
          cases hok : okN n with
          | false => exact bytes_m001xx _ _ n m xs b w hv hu hs fn fm hg hgm hl hok hx
          | true =>
            cases hr : rightD (asN n) with
            | false => exact bytes_m101xx _ _ n m xs b w hv hu hs fn fm hg hgm hl hok hr hx
            | true => exact bytes_m111xx _ _ n m xs b w hv hu hs fn fm hg hgm hl hok hr hx
        | false =>
          cases hok : okN n with
          | false => exact bytes_m000xx _ _ n m xs b w hv hu hs fn fm hg hgm hl hok hx
          | true =>
            cases hr : rightD (asN n) with
            | false => exact bytes_m100xx _ _ n m xs b w hv hu hs fn fm hg hgm hl hok hr hx
            | true => exact bytes_m110xx _ _ n m xs b w hv hu hs fn fm hg hgm hl hok hr hx
      · exact bytes_lg _ _ n m xs b w hv hu hs hg hgm (by omega)

set_option maxRecDepth 100000 in
theorem lifted (os : Os) (started : os.Started) (H : Type) (enc : TypeId × Value → H) :
    ReturnsInHanded {} Try.checked os 3 .any (Rows.nodeBytesSpec.pre6 enc Try.prog Try.f3 Rows.nodeBytesRow.domain false) (Rows.nodeBytesSpec.post enc Try.prog Try.f3 false true false false) := by
  refine returnsInHanded_of_change (C := Try.checked) own started (by kernel_rfl) Try.func3
    (ChangeSpec.witness6 (enc := enc) (C := Try.checked) false ⟨#[], #[.agg #[.bool false, .slice none 0 0, .slice none 0 0, .slice none 0 0], .agg #[.bool false, .slice none 0 0, .slice none 0 0, .slice none 0 0], .slice none 0 0], []⟩ 8 (by kernel_rfl) (by kernel_rfl) (by kernel_rfl) (by kernel_rfl)) ?_
  intro W base args ds gs before hval0 hW hcnd _
  have hval : ∀ (j : Nat) t v, Try.f3.params[j]? = some t → args[j]? = some v → Value.okWide Try.prog W .any base t v := hval0
  have hW' := hW
  obtain ⟨p, q, hA0, hV, rfl, hfz, hnd⟩ := hW
  have hA : DataW.TrodAll enc Try.prog W 0 (fun _ => true) true Try.f3.params.toList args.toList ds p := hA0
  rw [Try.params3] at hA hval
  obtain ⟨v0, vs0, d0, ds0, p0, q0, hargs, rfl, rfl, h0, r0⟩ := trodAll_cons hA
  obtain ⟨v1, vs1, d1, ds1, p1, q1, rfl, rfl, rfl, h1, r1⟩ := trodAll_cons r0
  obtain ⟨v2, vs2, d2, ds2, p2, q2, rfl, rfl, rfl, h2, r2⟩ := trodAll_cons r1
  obtain ⟨rfl, rfl, rfl⟩ := trodAll_nil r2
  obtain rfl : args = #[v0, v1, v2] := by cases args; simp_all
  obtain ⟨rfl, rfl⟩ := trodVars_none hV
  obtain ⟨n, hn, _, fn⟩ := open_node (hval 0 26 v0 rfl rfl) h0
  obtain ⟨m, hm, _, fm⟩ := open_node (hval 1 26 v1 rfl rfl) h1
  obtain ⟨x2, s2⟩ := open_sees (hval 2 27 v2 rfl rfl) h2
  refine (walk n m fn fm v0 v1 v2 x2 W hn hm s2).mono fun e W' ⟨he, hb⟩ => ?_
  subst he
  exact ⟨_, rfl, law_post hW' rfl rfl rfl (by kernel_rfl) hb⟩

/-- The statement. -/
theorem proved : Rows.NodeBytesSaid :=
  OpenClaim.holds_of_wide 3 Try.f3 rfl rfl rfl rfl rfl rfl rfl ⟨rfl, rfl, rfl, rfl, rfl⟩ rfl rfl rfl rfl rfl (by kernel_rfl) Try.func3 (by kernel_rfl)
    (of_decide_eq_true (by kernel_rfl)) (by unfold Func.isWrapper; first | (rw [if_pos (by decide +kernel)]; kernel_rfl) | (rw [if_neg (by decide +kernel)]; exact ⟨rfl, rfl⟩))
    (fun os started H enc _ => lifted os started H enc)
#print axioms proved
end Go.Proofs.Ytnifaldgofmciaa.nodeBytes
