/-
  For all bytes a, b and c the law GfRing of package casematelaw04 returns true, and they read afterwards as before: products do not hang on their order, nor on how they are put together; a product with a sum is the sum of the products. Condition: none.
-/
import Derived.Test.YtcangpdcdodkdaaE
import Derived.Test.YtcangpdcdodkdaaL
namespace Go.Proofs.Ytcangpdcdodkdaa.gfRing
open Go.ChangeShapes Go.WideShapes Go.ChangeAt Go.RowKit

set_option maxRecDepth 100000 in
set_option maxHeartbeats 2000000 in
theorem walk (a b c : Nat) (ha : a < 256) (hb' : b < 256) (hc : c < 256) (w : World) :
    Calls Try.prog 5 #[.int .u8 a, .int .u8 b, .int .u8 c] w fun e w' => e = .returned (.bool true) ∧ Below w.heap.size w w' := by
  have hab := mul_lt b ha
  have hac := mul_lt c ha
  have hbc := mul_lt c hb'
  have hxx := xor_lt hb' hc
  have M1 := Lib.hid (gmul a b ha hb')
  have M2 : Hid (∀ w, Calls Try.prog 19 #[.int .u8 b, .int .u8 a] w fun e w' => e = .returned (.int .u8 (mul a b : Nat)) ∧ w = w') := by
    intro w; have h := gmul b a hb' ha w; rw [← comm ha hb'] at h; exact h
  have M3 := Lib.hid (gmul (mul a b) c hab hc)
  have M4 := Lib.hid (gmul b c hb' hc)
  have M5 : Hid (∀ w, Calls Try.prog 19 #[.int .u8 a, .int .u8 (mul b c : Nat)] w fun e w' => e = .returned (.int .u8 (mul (mul a b) c : Nat)) ∧ w = w') := by
    intro w; have h := gmul a (mul b c) ha hbc w; rw [← assoc ha hb' hc] at h; exact h
  have M6 : Hid (∀ w, Calls Try.prog 19 #[.int .u8 a, .int .u8 (Nat.xor b c : Nat)] w fun e w' => e = .returned (.int .u8 (Nat.xor (mul a b) (mul a c) : Nat)) ∧ w = w') := by
    intro w; have h := gmul a (Nat.xor b c) ha hxx w; rw [mul_xor ha hb' hc] at h; exact h
  have M7 := Lib.hid (gmul a c ha hc)
  have M8 : Hid (∀ w, Calls Try.prog 19 #[.int .u8 a, .int .u8 1] w fun e w' => e = .returned (.int .u8 a) ∧ w = w') := by
    intro w; have h := gmul a 1 ha (by omega) w; rw [mul_one ha] at h; exact h
  have M9 : Hid (∀ w, Calls Try.prog 19 #[.int .u8 a, .int .u8 0] w fun e w' => e = .returned (.int .u8 0) ∧ w = w') := by
    intro w; have h := gmul a 0 ha (by omega) w; rw [mul_zero] at h; exact h
  have x1 := xor8 b c hb' hc
  have x2 := xor8 (mul a b) (mul a c) hab hac
  generalize Nat.xor b c = bc at *
  generalize mul (mul a b) c = abc at *
  generalize Nat.xor (mul a b) (mul a c) = xac at *
  generalize mul b c = mbc at *
  generalize mul a b = mab at *
  generalize mul a c = mac at *
  go_enter Try.func5, Try.ntmps5
  go_wp2_with fail
  refine (alive _).mono ?_
  rintro e w1 ⟨rfl, hb⟩
  have B1 := Lib.hid hb
  clear hb
  go_wp2_with fail
  refine (M1.out _).mono ?_
  rintro e w' ⟨rfl, rfl⟩
  go_wp2_with fail
  refine (M2.out _).mono ?_
  rintro e w' ⟨rfl, rfl⟩
  go_wp2_with fail
  refine (M1.out _).mono ?_
  rintro e w' ⟨rfl, rfl⟩
  go_wp2_with fail
  refine (M3.out _).mono ?_
  rintro e w' ⟨rfl, rfl⟩
  go_wp2_with fail
  refine (M4.out _).mono ?_
  rintro e w' ⟨rfl, rfl⟩
  go_wp2_with fail
  refine (M5.out _).mono ?_
  rintro e w' ⟨rfl, rfl⟩
  go_wp2_with fail
  refine (M6.out _).mono ?_
  rintro e w' ⟨rfl, rfl⟩
  go_wp2_with fail
  refine (M1.out _).mono ?_
  rintro e w' ⟨rfl, rfl⟩
  go_wp2_with fail
  refine (M7.out _).mono ?_
  rintro e w' ⟨rfl, rfl⟩
  go_wp2_with fail
  refine (M8.out _).mono ?_
  rintro e w' ⟨rfl, rfl⟩
  go_wp2_with fail
  refine (M9.out _).mono ?_
  rintro e w' ⟨rfl, rfl⟩
  go_wp2_with fail
  go_ret
  exact ⟨rfl, B1.out⟩
theorem walkI (a b c : Int) (a0 : 0 ≤ a) (a1 : a ≤ 255) (b0 : 0 ≤ b) (b1 : b ≤ 255) (c0 : 0 ≤ c) (c1 : c ≤ 255) (w : World) :
    Calls Try.prog 5 #[.int .u8 a, .int .u8 b, .int .u8 c] w fun e w' => e = .returned (.bool true) ∧ Below w.heap.size w w' := by
  obtain ⟨a, rfl⟩ := Int.eq_ofNat_of_zero_le a0
  obtain ⟨b, rfl⟩ := Int.eq_ofNat_of_zero_le b0
  obtain ⟨c, rfl⟩ := Int.eq_ofNat_of_zero_le c0
  exact walk a b c (by omega) (by omega) (by omega) w

set_option maxRecDepth 100000 in
theorem lifted (os : Os) (started : os.Started) (H : Type) (enc : TypeId × Value → H) :
    ReturnsInHanded {} Try.checked os 5 .any (Rows.gfRingSpec.pre6 enc Try.prog Try.f5 Rows.gfRingRow.domain false) (Rows.gfRingSpec.post enc Try.prog Try.f5 false true false false) := by
  refine returnsInHanded_of_change (C := Try.checked) own started (by kernel_rfl) Try.func5
    (ChangeSpec.witness6 (enc := enc) (C := Try.checked) false ⟨#[], #[.int .u8 0, .int .u8 0, .int .u8 0], []⟩ 8 (by kernel_rfl) (by kernel_rfl) (by kernel_rfl) (by kernel_rfl)) ?_
  intro W base args ds gs before hval0 hW hcnd _
  have hval : ∀ (j : Nat) t v, Try.f5.params[j]? = some t → args[j]? = some v → Value.okWide Try.prog W .any base t v := hval0
  have hW' := hW
  obtain ⟨p, q, hA0, hV, rfl, hfz, hnd⟩ := hW
  have hA : DataW.TrodAll enc Try.prog W 0 (fun _ => true) true Try.f5.params.toList args.toList ds p := hA0
  rw [Try.params5] at hA hval
  obtain ⟨v0, vs0, d0, ds0, p0, q0, hargs, rfl, rfl, h0, r0⟩ := trodAll_cons hA
  obtain ⟨v1, vs1, d1, ds1, p1, q1, rfl, rfl, rfl, h1, r1⟩ := trodAll_cons r0
  obtain ⟨v2, vs2, d2, ds2, p2, q2, rfl, rfl, rfl, h2, r2⟩ := trodAll_cons r1
  obtain ⟨rfl, rfl, rfl⟩ := trodAll_nil r2
  obtain rfl : args = #[v0, v1, v2] := by cases args; simp_all
  obtain ⟨rfl, rfl⟩ := trodVars_none hV
  obtain ⟨a0, rfl, rfl, rfl, w0⟩ := open_int Try.underlying5 (hval 0 5 v0 rfl rfl) h0
  have b0 := bounds_u8 w0
  obtain ⟨a1, rfl, rfl, rfl, w1⟩ := open_int Try.underlying5 (hval 1 5 v1 rfl rfl) h1
  have b1 := bounds_u8 w1
  obtain ⟨a2, rfl, rfl, rfl, w2⟩ := open_int Try.underlying5 (hval 2 5 v2 rfl rfl) h2
  have b2 := bounds_u8 w2
  refine (walkI a0 a1 a2 b0.1 b0.2 b1.1 b1.2 b2.1 b2.2 W).mono fun e W' ⟨he, hb⟩ => ?_
  subst he
  exact ⟨_, rfl, law_post hW' rfl rfl rfl (by kernel_rfl) hb⟩

/-- The statement. -/
theorem proved : Rows.GfRingSaid :=
  OpenClaim.holds_of_wide 5 Try.f5 rfl rfl rfl rfl rfl rfl rfl ⟨rfl, rfl, rfl, rfl, rfl⟩ rfl rfl rfl rfl rfl (by kernel_rfl) Try.func5 (by kernel_rfl)
    (of_decide_eq_true (by kernel_rfl)) (by unfold Func.isWrapper; first | (rw [if_pos (by decide +kernel)]; kernel_rfl) | (rw [if_neg (by decide +kernel)]; exact ⟨rfl, rfl⟩))
    (fun os started H enc _ => lifted os started H enc)
#print axioms proved
end Go.Proofs.Ytcangpdcdodkdaa.gfRing
