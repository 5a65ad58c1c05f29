/-
  For all bytes a and b the law GfBack of package casematelaw04 returns true, and they read afterwards as before: what is not 0 times its inverse is 1; no product of two that are not 0 is 0; the inverse of the inverse is the byte. Condition: none.
-/
import Derived.Test.YtcangpdcdodkdaaE
import Derived.Test.YtcangpdcdodkdaaL
namespace Go.Proofs.Ytcangpdcdodkdaa.gfBack
open Go.ChangeShapes Go.WideShapes Go.ChangeAt Go.RowKit

set_option maxRecDepth 100000 in
set_option maxHeartbeats 2000000 in
theorem walk0 (a b : Nat) (ha : a < 256) (hb' : b < 256) (h0 : a = 0 ∨ b = 0) (w : World) :
    Calls Try.prog 6 #[.int .u8 a, .int .u8 b] w fun e w' => e = .returned (.bool true) ∧ Below w.heap.size w w' := by
  have M1 : Hid (∀ w, Calls Try.prog 21 #[.int .u8 0] w fun e w' => e = .returned (.int .u8 0) ∧ w = w') := by
    intro w; have h := inverse 0 (by omega) w; rw [inv_zero] at h; exact h
  have M2 : Hid (∀ w, Calls Try.prog 19 #[.int .u8 a, .int .u8 b] w fun e w' => e = .returned (.int .u8 0) ∧ w = w') := by
    intro w; have h := gmul a b ha hb' w
    have e : mul a b = 0 := by
      rcases h0 with rfl | rfl
      · exact zero_mul hb'
      · exact mul_zero a
    rw [e] at h; exact h
  by_cases z : a = 0
  · subst z
    go_enter Try.func6, Try.ntmps6
    go_wp2_with fail
    refine (alive _).mono ?_
    rintro e w1 ⟨rfl, hb⟩
    have B1 := Lib.hid hb
    clear hb
    go_wp2_with fail
    refine (M1.out _).mono ?_
    rintro e w' ⟨rfl, rfl⟩
    go_wp2_with fail
    refine (M2.out _).mono ?_
    rintro e w' ⟨rfl, rfl⟩
    go_wp2_with fail
    go_ret
    exact ⟨rfl, B1.out⟩
  · obtain rfl : b = 0 := by omega
    have z' : ((a : Int) == 0) = false := by simp; omega
    go_enter Try.func6, Try.ntmps6
    go_wp2_with fail
    refine (alive _).mono ?_
    rintro e w1 ⟨rfl, hb⟩
    have B1 := Lib.hid hb
    clear hb
    go_wp2_with fail
    refine (M1.out _).mono ?_
    rintro e w' ⟨rfl, rfl⟩
    go_wp2_with fail
    refine (M2.out _).mono ?_
    rintro e w' ⟨rfl, rfl⟩
    go_wp2_with fail
    go_ret
    exact ⟨rfl, B1.out⟩
set_option maxRecDepth 100000 in
set_option maxHeartbeats 2000000 in
theorem walk1 (a b : Nat) (ha : a < 256) (hb' : b < 256) (h0 : a ≠ 0) (k0 : b ≠ 0) (w : World) :
    Calls Try.prog 6 #[.int .u8 a, .int .u8 b] w fun e w' => e = .returned (.bool true) ∧ Below w.heap.size w w' := by
  have hi := inv_lt ha
  have io := inv_of ha h0
  have M1 := Lib.hid (inverse a ha)
  have M2 : Hid (∀ w, Calls Try.prog 19 #[.int .u8 a, .int .u8 (inv a : Nat)] w fun e w' => e = .returned (.int .u8 1) ∧ w = w') := by
    intro w; have h := gmul a (inv a) ha hi w; rw [io.1] at h; exact h
  have M3 := Lib.hid (gmul a b ha hb')
  have hn := no_zero ha hb' h0 k0
  have M4 : Hid (∀ w, Calls Try.prog 21 #[.int .u8 (inv a : Nat)] w fun e w' => e = .returned (.int .u8 a) ∧ w = w') := by
    intro w; have h := inverse (inv a) hi w; rw [io.2] at h; exact h
  have M5 : Hid (∀ w, Calls Try.prog 23 #[.int .u8 a, .int .i64 255] w fun e w' => e = .returned (.int .u8 1) ∧ w = w') := by
    intro w; have h := power a 255 ha (by omega) (by omega) w; rw [show gpw a 255 = npow a 255 from rfl, pow255 ha h0] at h; exact h
  clear io
  generalize mul a b = mab at *
  generalize inv a = ia at *
  have z1 : ((a : Int) == 0) = false := by simp; omega
  have z2 : ((b : Int) == 0) = false := by simp; omega
  have z3 : (!((mab : Int) == 0)) = true := by simp; omega
  have z4 : ((mab : Int) != 0) = true := by simp; omega
  have z5 : ((mab : Int) == 0) = false := by simp; omega
  clear hn h0 k0
  go_enter Try.func6, Try.ntmps6
  go_wp2_with fail
  refine (alive _).mono ?_
  rintro e w1 ⟨rfl, hb⟩
  have B1 := Lib.hid hb
  clear hb
  go_wp2_with fail
  refine (M1.out _).mono ?_
  rintro e w' ⟨rfl, rfl⟩
  go_wp2_with fail
  refine (M2.out _).mono ?_
  rintro e w' ⟨rfl, rfl⟩
  go_wp2_with fail
  refine (M3.out _).mono ?_
  rintro e w' ⟨rfl, rfl⟩
  go_wp2_with fail
  refine (M1.out _).mono ?_
  rintro e w' ⟨rfl, rfl⟩
  go_wp2_with fail
  refine (M4.out _).mono ?_
  rintro e w' ⟨rfl, rfl⟩
  go_wp2_with fail
  refine (M5.out _).mono ?_
  rintro e w' ⟨rfl, rfl⟩
  go_wp2_with fail
  go_ret
  exact ⟨rfl, B1.out⟩
theorem walkI (a b : Int) (a0 : 0 ≤ a) (a1 : a ≤ 255) (b0 : 0 ≤ b) (b1 : b ≤ 255) (w : World) :
    Calls Try.prog 6 #[.int .u8 a, .int .u8 b] w fun e w' => e = .returned (.bool true) ∧ Below w.heap.size w w' := by
  obtain ⟨a, rfl⟩ := Int.eq_ofNat_of_zero_le a0
  obtain ⟨b, rfl⟩ := Int.eq_ofNat_of_zero_le b0
  by_cases h : a = 0 ∨ b = 0
  · exact walk0 a b (by omega) (by omega) h w
  · exact walk1 a b (by omega) (by omega) (fun e => h (.inl e)) (fun e => h (.inr e)) w

set_option maxRecDepth 100000 in
theorem lifted (os : Os) (started : os.Started) (H : Type) (enc : TypeId × Value → H) :
    ReturnsInHanded {} Try.checked os 6 .any (Rows.gfBackSpec.pre6 enc Try.prog Try.f6 Rows.gfBackRow.domain false) (Rows.gfBackSpec.post enc Try.prog Try.f6 false true false false) := by
  refine returnsInHanded_of_change (C := Try.checked) own started (by kernel_rfl) Try.func6
    (ChangeSpec.witness6 (enc := enc) (C := Try.checked) false ⟨#[], #[.int .u8 0, .int .u8 0], []⟩ 8 (by kernel_rfl) (by kernel_rfl) (by kernel_rfl) (by kernel_rfl)) ?_
  intro W base args ds gs before hval0 hW hcnd _
  have hval : ∀ (j : Nat) t v, Try.f6.params[j]? = some t → args[j]? = some v → Value.okWide Try.prog W .any base t v := hval0
  have hW' := hW
  obtain ⟨p, q, hA0, hV, rfl, hfz, hnd⟩ := hW
  have hA : DataW.TrodAll enc Try.prog W 0 (fun _ => true) true Try.f6.params.toList args.toList ds p := hA0
  rw [Try.params6] at hA hval
  obtain ⟨v0, vs0, d0, ds0, p0, q0, hargs, rfl, rfl, h0, r0⟩ := trodAll_cons hA
  obtain ⟨v1, vs1, d1, ds1, p1, q1, rfl, rfl, rfl, h1, r1⟩ := trodAll_cons r0
  obtain ⟨rfl, rfl, rfl⟩ := trodAll_nil r1
  obtain rfl : args = #[v0, v1] := by cases args; simp_all
  obtain ⟨rfl, rfl⟩ := trodVars_none hV
  obtain ⟨a0, rfl, rfl, rfl, w0⟩ := open_int Try.underlying5 (hval 0 5 v0 rfl rfl) h0
  have b0 := bounds_u8 w0
  obtain ⟨a1, rfl, rfl, rfl, w1⟩ := open_int Try.underlying5 (hval 1 5 v1 rfl rfl) h1
  have b1 := bounds_u8 w1
  refine (walkI a0 a1 b0.1 b0.2 b1.1 b1.2 W).mono fun e W' ⟨he, hb⟩ => ?_
  subst he
  exact ⟨_, rfl, law_post hW' rfl rfl rfl (by kernel_rfl) hb⟩

/-- The statement. -/
theorem proved : Rows.GfBackSaid :=
  OpenClaim.holds_of_wide 6 Try.f6 rfl rfl rfl rfl rfl rfl rfl ⟨rfl, rfl, rfl, rfl, rfl⟩ rfl rfl rfl rfl rfl (by kernel_rfl) Try.func6 (by kernel_rfl)
    (of_decide_eq_true (by kernel_rfl)) (by unfold Func.isWrapper; first | (rw [if_pos (by decide +kernel)]; kernel_rfl) | (rw [if_neg (by decide +kernel)]; exact ⟨rfl, rfl⟩))
    (fun os started H enc _ => lifted os started H enc)
#print axioms proved
end Go.Proofs.Ytcangpdcdodkdaa.gfBack
