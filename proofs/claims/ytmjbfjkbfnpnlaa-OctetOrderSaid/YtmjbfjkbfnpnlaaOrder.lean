/-
  For every a and b of 64 digits the law OctetOrder of package casematelaw01 returns true, and a and b read afterwards as before: bytes of numbers of one width stand as the numbers do, and there are as many as the width says. Condition: none.
-/
import Derived.Test.YtmjbfjkbfnpnlaaG
import Derived.Test.YtmjbfjkbfnpnlaaL
namespace Go.Proofs.Ytmjbfjkbfnpnlaa.octetOrder
open Go.ChangeShapes Go.WideShapes Go.ChangeAt Go.RowKit
set_option maxHeartbeats 1000000 in
theorem walk (a0 : Int) (a1 : Int) (h0 : 0 ≤ a0) (h1 : a0 ≤ 18446744073709551615) (h2 : 0 ≤ a1) (h3 : a1 ≤ 18446744073709551615) (w : World) :
    Calls Try.prog 7 #[.int .u64 a0, .int .u64 a1] w fun e w' => e = .returned (.bool true) ∧ Below w.heap.size w w' := by
  have L8 := be_less 8 a0 a1 h0 (by omega) h2 (by omega)
  have E8 := be_str 8 a0 a1 h0 (by omega) h2 (by omega)
  have L4 := be_less 4 (a0 % 4294967296) (a1 % 4294967296) (by omega) (by omega) (by omega) (by omega)
  have HL8 := Lib.hid L8
  have HE8 := Lib.hid E8
  have HL4 := Lib.hid L4
  clear L8 E8 L4
  go_enter Try.func7, Try.ntmps7
  go_wp2_with fail
  refine (putb64 a0 h0 h1 _).mono ?_
  rintro e w1 ⟨g1, rfl, hs, hb, _⟩
  have S1 := Lib.hid hs
  have B1 := Lib.hid hb
  clear hs hb
  go_wp2_with fail
  refine (putb64 a1 h2 h3 _).mono ?_
  rintro e w2 ⟨g2, rfl, hs, hb, _⟩
  have S2 := Lib.hid hs
  have B2 := Lib.hid hb
  clear hs hb
  go_wp2_with fail
  refine (putb32 (a0 % 4294967296) (by omega) (by omega) _).mono ?_
  rintro e w3 ⟨g3, rfl, hs, hb, _⟩
  have S3 := Lib.hid hs
  have B3 := Lib.hid hb
  clear hs hb
  go_wp2_with fail
  refine (putb32 (a1 % 4294967296) (by omega) (by omega) _).mono ?_
  rintro e w4 ⟨g4, rfl, hs, hb, _⟩
  have S4 := Lib.hid hs
  have B4 := Lib.hid hb
  clear hs hb
  go_wp2_with fail
  refine (alive _).mono ?_
  rintro e w5 ⟨rfl, hb⟩
  have B5 := Lib.hid hb
  clear hb
  have c1 := ((((S1.out.below B2.out).below B3.out).below B4.out).below B5.out).str
  have c2 := (((S2.out.below B3.out).below B4.out).below B5.out).str
  have c3 := ((S3.out.below B4.out).below B5.out).str
  have c4 := (S4.out.below B5.out).str
  have hL := HL8.out
  have hE := HE8.out
  have hM := HL4.out
  generalize strOfNums (be 8 a0) = s1 at c1 hL hE
  generalize strOfNums (be 8 a1) = s2 at c2 hL hE
  generalize strOfNums (be 4 (a0 % 4294967296)) = s3 at c3 hM
  generalize strOfNums (be 4 (a1 % 4294967296)) = s4 at c4 hM
  go_wp2_with fail
  refine (putb8 (a0 % 256) (by omega) (by omega) _).mono ?_
  rintro e w6 ⟨g5, rfl, _, hb, _⟩
  have B6 := Lib.hid hb
  clear hb
  go_wp2_with fail
  refine (putb16 (a1 % 65536) (by omega) (by omega) _).mono ?_
  rintro e w7 ⟨g6, rfl, _, hb, _⟩
  have B7 := Lib.hid hb
  clear hb
  go_wp2_with fail
  go_ret
  refine ⟨rfl, ?_⟩
  have b1 := B1.out
  have b2 := b1.trans (B2.out.mono b1.size)
  have b3 := b2.trans (B3.out.mono b2.size)
  have b4 := b3.trans (B4.out.mono b3.size)
  have b5 := b4.trans (B5.out.mono b4.size)
  have b6 := b5.trans (B6.out.mono b5.size)
  exact b6.trans (B7.out.mono b6.size)

set_option maxRecDepth 100000 in
theorem lifted (os : Os) (started : os.Started) (H : Type) (enc : TypeId × Value → H) :
    ReturnsInHanded {} Try.checked os 7 .any (Rows.octetOrderSpec.pre6 enc Try.prog Try.f7 Rows.octetOrderRow.domain false) (Rows.octetOrderSpec.post enc Try.prog Try.f7 false true false false) := by
  refine returnsInHanded_of_change (C := Try.checked) own started (by kernel_rfl) Try.func7
    (ChangeSpec.witness6 (enc := enc) (C := Try.checked) false ⟨#[], #[.int .u64 0, .int .u64 0], []⟩ 8 (by kernel_rfl) (by kernel_rfl) (by kernel_rfl) (by kernel_rfl)) ?_
  intro W base args ds gs before hval0 hW hcnd _
  have hval : ∀ (j : Nat) t v, Try.f7.params[j]? = some t → args[j]? = some v → Value.okWide Try.prog W .any base t v := hval0
  have hW' := hW
  obtain ⟨p, q, hA0, hV, rfl, hfz, hnd⟩ := hW
  have hA : DataW.TrodAll enc Try.prog W 0 (fun _ => true) true Try.f7.params.toList args.toList ds p := hA0
  rw [Try.params7] at hA hval
  obtain ⟨v0, v1, d0, d1, _, _, rfl, rfl, _, h0, h1⟩ := trodAll_two hA
  obtain ⟨rfl, rfl⟩ := trodVars_none hV
  obtain ⟨a0, rfl, rfl, rfl, w0⟩ := open_int Try.underlying24 (hval 0 24 v0 rfl rfl) h0
  obtain ⟨a1, rfl, rfl, rfl, w1⟩ := open_int Try.underlying24 (hval 1 24 v1 rfl rfl) h1
  have b0 := bounds_u64 w0
  have b1 := bounds_u64 w1
  refine (walk a0 a1 b0.1 b0.2 b1.1 b1.2 W).mono fun e W' ⟨he, hb⟩ => ?_
  subst he
  exact ⟨_, rfl, law_post hW' rfl rfl rfl (by kernel_rfl) hb⟩

/-- The statement. -/
theorem proved : Rows.OctetOrderSaid :=
  OpenClaim.holds_of_wide 7 Try.f7 rfl rfl rfl rfl rfl rfl rfl ⟨rfl, rfl, rfl, rfl, rfl⟩ rfl rfl rfl rfl rfl (by kernel_rfl) Try.func7 (by kernel_rfl)
    (of_decide_eq_true (by kernel_rfl)) (by unfold Func.isWrapper; first | (rw [if_pos (by decide +kernel)]; kernel_rfl) | (rw [if_neg (by decide +kernel)]; exact ⟨rfl, rfl⟩))
    (fun os started H enc _ => lifted os started H enc)
#print axioms proved
end Go.Proofs.Ytmjbfjkbfnpnlaa.octetOrder
