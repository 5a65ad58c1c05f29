/-
  For every node the law NodeHalves of package casematelaw13 returns true, and the node reads afterwards as before: halved and joined a node is as it was. Condition: none.
-/
import Derived.Test.YtnifaldgofmciaaNeO
namespace Go.Proofs.Ytnifaldgofmciaa.nodeHalves
open Go.ChangeShapes Go.WideShapes Go.ChangeAt Go.RowKit
theorem walk (A : Array Value) (n : NV) (w : World) (hv : ND w (.agg A) n) (hA : okA 0 A) : Calls Try.prog 5 #[.agg A] w (AliveP w) := by
  cases hg : greatB n with
  | true => exact halves_no A n w hv hA (.inl hg)
  | false =>
    cases hr : rightB n.leaf n.ks n.vs.length n.qs.length with
    | false => exact halves_no A n w hv hA (.inr ⟨hg, hr⟩)
    | true =>
      have h1 := (right_parts hr).2.1
      obtain ⟨k0, hk⟩ : ∃ k0, halfN n = k0 + 1 := ⟨halfN n - 1, by unfold halfN; omega⟩
      obtain ⟨l, hl⟩ : ∃ l, n.ks.length = k0 + 1 + l := ⟨n.ks.length - (k0 + 1), by unfold halfN at hk; omega⟩
      have hc : (k0 = 0 ∧ l = 0) ∨ l = k0 + 1 ∨ (k0 = l ∧ 0 < l) := by unfold halfN at hk; omega
      rcases hc with hc | hc | hc
      · exact halves_z A n w hv hA hg hr k0 l hk hl hc
      · exact halves_ev A n w hv hA hg hr k0 l hk hl hc
      · exact halves_od A n w hv hA hg hr k0 l hk hl hc

set_option maxRecDepth 100000 in
theorem lifted (os : Os) (started : os.Started) (H : Type) (enc : TypeId × Value → H) :
    ReturnsInHanded {} Try.checked os 5 .any (Rows.nodeHalvesSpec.pre6 enc Try.prog Try.f5 Rows.nodeHalvesRow.domain false) (Rows.nodeHalvesSpec.post enc Try.prog Try.f5 false true false false) := by
  refine returnsInHanded_of_change (C := Try.checked) own started (by kernel_rfl) Try.func5
    (ChangeSpec.witness6 (enc := enc) (C := Try.checked) false ⟨#[], #[.agg #[.bool false, .slice none 0 0, .slice none 0 0, .slice none 0 0]], []⟩ 8 (by kernel_rfl) (by kernel_rfl) (by kernel_rfl) (by kernel_rfl)) ?_
  intro W base args ds gs before hval0 hW hcnd _
  have hval : ∀ (j : Nat) t v, Try.f5.params[j]? = some t → args[j]? = some v → Value.okWide Try.prog W .any base t v := hval0
  have hW' := hW
  obtain ⟨p, q, hA0, hV, rfl, hfz, hnd⟩ := hW
  have hA : DataW.TrodAll enc Try.prog W 0 (fun _ => true) true Try.f5.params.toList args.toList ds p := hA0
  rw [Try.params5] at hA hval
  obtain ⟨v0, vs0, d0, ds0, p0, q0, hargs, rfl, rfl, h0, r0⟩ := trodAll_cons hA
  obtain ⟨rfl, rfl, rfl⟩ := trodAll_nil r0
  obtain rfl : args = #[v0] := by cases args; simp_all
  obtain ⟨rfl, rfl⟩ := trodVars_none hV
  obtain ⟨A, n, rfl, hn, hok⟩ := open_nodeA (hval 0 26 v0 rfl rfl) h0
  refine (walk A n W hn hok).mono fun e W' ⟨he, hb⟩ => ?_
  subst he
  exact ⟨_, rfl, law_post hW' rfl rfl rfl (by kernel_rfl) hb⟩

/-- The statement. -/
theorem proved : Rows.NodeHalvesSaid :=
  OpenClaim.holds_of_wide 5 Try.f5 rfl rfl rfl rfl rfl rfl rfl ⟨rfl, rfl, rfl, rfl, rfl⟩ rfl rfl rfl rfl rfl (by kernel_rfl) Try.func5 (by kernel_rfl)
    (of_decide_eq_true (by kernel_rfl)) (by unfold Func.isWrapper; first | (rw [if_pos (by decide +kernel)]; kernel_rfl) | (rw [if_neg (by decide +kernel)]; exact ⟨rfl, rfl⟩))
    (fun os started H enc _ => lifted os started H enc)
#print axioms proved
end Go.Proofs.Ytnifaldgofmciaa.nodeHalves
