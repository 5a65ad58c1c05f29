/-
  For every node, key and value the law NodePuts of package casematelaw13 returns true, and all three read afterwards as before: what is put is found, with its value; what is cut is not, and all else stays. Condition: none.
-/
import Derived.Test.YtnifaldgofmciaaNeO
import Derived.Test.YtnifaldgofmciaaNeP
namespace Go.Proofs.Ytnifaldgofmciaa.nodePuts
open Go.ChangeShapes Go.WideShapes Go.ChangeAt Go.RowKit
set_option maxRecDepth 100000 in
theorem open_arr44 {H : Type} {enc : TypeId × Value → H} {w : World} {r : Reach} {b0 base : Nat} {v : Value} {d : DataW H} {ps : List MemPlace}
    (hval : Value.okWide Try.prog w r b0 54 v) (hd : DataW.Trod enc Try.prog w base (fun _ => true) true 54 v d ps) : ∃ l : List Int, (∀ x ∈ l, 0 ≤ x ∧ x ≤ 255) ∧ l.length = 44 ∧ v = .agg (val l).toArray := by
  unfold Value.okWide at hval
  simp only [show Try.prog.underlying 54 = some (.array 44 5) from by kernel_rfl] at hval
  obtain ⟨cs, rfl, hsz, _⟩ := hval
  obtain ⟨fuel, hf⟩ := hd
  obtain ⟨ys, h1, h2, h3⟩ := trod_bytes (t := 54) (n := 44) (by kernel_rfl) c54 hf
  refine ⟨ys, h1, h2, ?_⟩
  congr 1
  apply Array.ext'
  unfold val
  rw [← h3]
  rfl
theorem walk (A : Array Value) (n : NV) (key : Int) (z : List Int) (w : World) (hv : ND w (.agg A) n) (hA : okA 0 A) (hk : 0 ≤ key ∧ key ≤ 18446744073709551615) (hz0 : ∀ x ∈ z, 0 ≤ x ∧ x ≤ 255) (hz1 : z.length = 44) : Calls Try.prog 6 #[.agg A, .int .u64 key, .agg (val z).toArray] w (AliveP w) := by
  cases hg : greatB n with
  | true => exact puts_great A n key z w hv hA hz1 hg
  | false =>
    cases hlf : n.leaf with
    | false => exact puts_inner A n key z w hv hA hz1 hg hlf
    | true =>
      cases hr : rightB n.leaf n.ks n.vs.length n.qs.length with
      | false => exact puts_wrong A n key z w hv hA hz1 hg hlf hr
      | true =>
        obtain ⟨i, th, hF⟩ := find_ex key n.ks (right_parts hr).2.2.1
        cases th with
        | true => exact puts_was A n key z w hv hA hz1 hg hlf hr i hF hk hz0
        | false => exact puts_not A n key z w hv hA hz1 hg hlf hr i hF hk hz0

set_option maxRecDepth 100000 in
theorem lifted (os : Os) (started : os.Started) (H : Type) (enc : TypeId × Value → H) :
    ReturnsInHanded {} Try.checked os 6 .any (Rows.nodePutsSpec.pre6 enc Try.prog Try.f6 Rows.nodePutsRow.domain false) (Rows.nodePutsSpec.post enc Try.prog Try.f6 false true false false) := by
  refine returnsInHanded_of_change (C := Try.checked) own started (by kernel_rfl) Try.func6
    (ChangeSpec.witness6 (enc := enc) (C := Try.checked) false ⟨#[], #[.agg #[.bool false, .slice none 0 0, .slice none 0 0, .slice none 0 0], .int .u64 0, .agg (List.replicate 44 (Value.int .u8 0)).toArray], []⟩ 8 (by kernel_rfl) (by kernel_rfl) (by kernel_rfl) (by kernel_rfl)) ?_
  intro W base args ds gs before hval0 hW hcnd _
  have hval : ∀ (j : Nat) t v, Try.f6.params[j]? = some t → args[j]? = some v → Value.okWide Try.prog W .any base t v := hval0
  have hW' := hW
  obtain ⟨p, q, hA0, hV, rfl, hfz, hnd⟩ := hW
  have hA : DataW.TrodAll enc Try.prog W 0 (fun _ => true) true Try.f6.params.toList args.toList ds p := hA0
  rw [Try.params6] at hA hval
  obtain ⟨v0, vs0, d0, ds0, p0, q0, hargs, rfl, rfl, h0, r0⟩ := trodAll_cons hA
  obtain ⟨v1, vs1, d1, ds1, p1, q1, rfl, rfl, rfl, h1, r1⟩ := trodAll_cons r0
  obtain ⟨v2, vs2, d2, ds2, p2, q2, rfl, rfl, rfl, h2, r2⟩ := trodAll_cons r1
  obtain ⟨rfl, rfl, rfl⟩ := trodAll_nil r2
  obtain rfl : args = #[v0, v1, v2] := by cases args; simp_all
  obtain ⟨rfl, rfl⟩ := trodVars_none hV
  obtain ⟨A, n, rfl, hn, hok⟩ := open_nodeA (hval 0 26 v0 rfl rfl) h0
  obtain ⟨a1, rfl, rfl, rfl, w1⟩ := open_int Try.underlying52 (hval 1 52 v1 rfl rfl) h1
  have b1 := bounds_u64 w1
  obtain ⟨z, z0, z1, rfl⟩ := open_arr44 (hval 2 54 v2 rfl rfl) h2
  refine (walk A n a1 z W hn hok b1 z0 z1).mono fun e W' ⟨he, hb⟩ => ?_
  subst he
  exact ⟨_, rfl, law_post hW' rfl rfl rfl (by kernel_rfl) hb⟩

/-- The statement. -/
theorem proved : Rows.NodePutsSaid :=
  OpenClaim.holds_of_wide 6 Try.f6 rfl rfl rfl rfl rfl rfl rfl ⟨rfl, rfl, rfl, rfl, rfl⟩ rfl rfl rfl rfl rfl (by kernel_rfl) Try.func6 (by kernel_rfl)
    (of_decide_eq_true (by kernel_rfl)) (by unfold Func.isWrapper; first | (rw [if_pos (by decide +kernel)]; kernel_rfl) | (rw [if_neg (by decide +kernel)]; exact ⟨rfl, rfl⟩))
    (fun os started H enc _ => lifted os started H enc)
#print axioms proved
end Go.Proofs.Ytnifaldgofmciaa.nodePuts
