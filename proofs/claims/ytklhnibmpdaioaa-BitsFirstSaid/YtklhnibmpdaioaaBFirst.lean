/-
  For every slice of ops and every int the law BitsFirst of package casematelaw12 returns true, and the arguments read afterwards as before: what is told as free is, and none ahead of it from where it was asked; if none is told none is free. Condition: none.
-/
import Derived.Test.YtklhnibmpdaioaaG
namespace Go.Proofs.Ytklhnibmpdaioaa.bitsFirst
open Go.ChangeShapes Go.WideShapes Go.ChangeAt Go.RowKit
theorem tm_at (f : Nat → Nat) (i : Nat) : tm f (i : Int) = (f i : Int) := by unfold tm; rw [if_pos (by omega), Int.toNat_natCast]
set_option maxRecDepth 100000 in
set_option maxHeartbeats 4000000 in
theorem walk (lv : Value) (L : Nat) (F : Nat → Nat → Int) (fr : Int) (h0 : -9223372036854775808 ≤ fr) (h1 : fr ≤ 9223372036854775807) (w : World) (h : SO 2 w lv L F) :
    Calls Try.prog 11 #[lv, .int .i64 fr] w fun e w' => e = .returned (.bool true) ∧ Below w.heap.size w w' := by
  have P := Lib.hid (playedB lv L F w h)
  obtain ⟨x, c, rfl, hx1, hx2, _⟩ := h
  have BD : Hid (-9223372036854775808 ≤ fr ∧ fr ≤ 9223372036854775807) := ⟨h0, h1⟩
  clear h0 h1 hx1 hx2
  go_enter Try.func11, Try.ntmps11
  go_wp2_with fail
  refine P.out.mono ?_
  rintro e w1 ⟨g, mb, wb, rfl, r, k1, k2, k3, hb, _⟩
  have R := Lib.hid r
  have B := Lib.hid hb
  clear r hb k1 k2 k3 P
  generalize play F (min L 150) = f at *
  go_wp2_with fail
  refine (freeB R.out fr).mono ?_
  rintro e w' ⟨p, b, rfl, hf, rfl⟩
  obtain ⟨s, hs⟩ : ∃ s : Nat, (s : Int) = max fr 0 := ⟨fr.toNat, by omega⟩
  have hs63 : (s : Int) ≤ 9223372036854775807 := by have := BD.out; omega
  rcases hf with ⟨rfl, q, rfl, q1, q2, q3, q4⟩ | ⟨rfl, rfl, q4⟩
  · have Q4 := Lib.hid q4
    have HQ : Hid (tm f (q : Int) = 0) := by show _ = _; rw [tm_at, q3]; rfl
    clear q4 q3
    by_cases hfr : fr < 0
    case' pos => have HS : Hid (s = 0) := by show _ = _; omega
    case' neg => obtain rfl : fr = s := by omega
    all_goals
      have hsq : s ≤ q := by omega
      clear hs
      go_wp2_with fail
      go_loopg [9] (q - s) (fun r vi wr => ∃ i : Nat, r + i = q ∧ s ≤ i ∧ i ≤ q ∧ vi = .int .i64 i ∧ w1 = wr)
      case atStart => first
        | exact ⟨s, by omega, Nat.le_refl _, hsq, rfl, rfl⟩
        | exact ⟨0, (by have := HS.out; omega), (by have := HS.out; omega), by omega, rfl, rfl⟩
      case round =>
        obtain ⟨i, hr, hsi, hiq, rfl, rfl⟩ := hrel
        have HR := Lib.hid hr
        clear hr
        have hiN : (i : Int) < 150 := by omega
        by_cases he : i = q
        · obtain rfl : i = q := he
          go_wp2_with fail
          refine (sizeB R.out).mono ?_
          rintro e w' ⟨rfl, rfl⟩
          go_wp2_with fail
          refine (aliveB _).mono ?_
          rintro e w2 ⟨rfl, hb2⟩
          have R2 := Lib.hid (R.out.below hb2)
          have B2 : Hid (Below w.heap.size w w2) := B.out.trans (hb2.mono B.out.size)
          clear hb2
          go_wp2_with fail
          refine (timesB R2.out i (by omega) (by omega)).mono ?_
          rintro e w' ⟨rfl, rfl⟩
          rw [HQ.out]
          go_wp2_with fail
          go_ret
          exact ⟨rfl, B2.out⟩
        · have hne : ((i : Int) == (q : Int)) = false := by simp; omega
          have hf0 : f i ≠ 0 := Q4.out i (by omega) (by omega)
          have hft : (tm f (i : Int) == 0) = false := by rw [tm_at]; simp; omega
          clear hf0
          go_wp2_with fail
          refine (sizeB R.out).mono ?_
          rintro e w' ⟨rfl, rfl⟩
          go_wp2_with fail
          refine (timesB R.out i (by omega) (by omega)).mono ?_
          rintro e w' ⟨rfl, rfl⟩
          go_wp2_with fail
          go_roundg (q - (i + 1))
          case measure => have := HR.out; omega
          case rel => exact ⟨i + 1, by omega, by omega, by omega, by go_num, rfl⟩
  · have Q4 := Lib.hid q4
    clear q4
    by_cases hfr : fr < 0
    case' pos => have HS : Hid (s = 0) := by show _ = _; omega
    case' neg => obtain rfl : fr = s := by omega
    all_goals
      clear hs
      go_wp2_with fail
      go_loopg [9] (150 - s) (fun r vi wr => ∃ i : Nat, r = 150 - i ∧ s ≤ i ∧ (i : Int) ≤ 9223372036854775807 ∧ vi = .int .i64 i ∧ w1 = wr)
      case atStart => first
        | exact ⟨s, rfl, Nat.le_refl _, hs63, rfl, rfl⟩
        | exact ⟨0, (by have := HS.out; omega), (by have := HS.out; omega), by omega, rfl, rfl⟩
      case round =>
        obtain ⟨i, hr, hsi, hiq, rfl, rfl⟩ := hrel
        have HR := Lib.hid hr
        clear hr
        by_cases he : i < 150
        · have hf0 : f i ≠ 0 := Q4.out i (by omega) (by omega)
          have hft : (tm f (i : Int) == 0) = false := by rw [tm_at]; simp; omega
          clear hf0
          go_wp2_with fail
          refine (sizeB R.out).mono ?_
          rintro e w' ⟨rfl, rfl⟩
          go_wp2_with fail
          refine (timesB R.out i (by omega) (by omega)).mono ?_
          rintro e w' ⟨rfl, rfl⟩
          go_wp2_with fail
          go_roundg (150 - (i + 1))
          case measure => have := HR.out; omega
          case rel => exact ⟨i + 1, by omega, by omega, by omega, by go_num, rfl⟩
        · have hiN : ¬ (i : Int) < 150 := by omega
          go_wp2_with fail
          refine (sizeB R.out).mono ?_
          rintro e w' ⟨rfl, rfl⟩
          go_wp2_with fail
          refine (aliveB _).mono ?_
          rintro e w2 ⟨rfl, hb2⟩
          have B2 : Hid (Below w.heap.size w w2) := B.out.trans (hb2.mono B.out.size)
          clear hb2
          go_wp2_with fail
          go_ret
          exact ⟨rfl, B2.out⟩

set_option maxRecDepth 100000 in
theorem open_ops {H : Type} {enc : TypeId × Value → H} {w : World} {r : Reach} {b0 base : Nat} {v : Value} {d : DataW H} {ps : List MemPlace}
    (hval : Value.okWide Try.prog w r b0 64 v) (hd : DataW.Trod enc Try.prog w base (fun _ => true) true 64 v d ps) : ∃ L f, SO 2 w v L f :=
  open_so (t := 64) Try.underlying64 Try.underlying72 (by kernel_rfl) (by kernel_rfl) (fun j f hj => by
    rcases j with _ | _ | j
    · simp at hj; rw [← hj]
    · simp at hj; rw [← hj]
    · simp at hj) (by decide) hval hd

set_option maxRecDepth 100000 in
theorem lifted (os : Os) (started : os.Started) (H : Type) (enc : TypeId × Value → H) :
    ReturnsInHanded {} Try.checked os 11 .any (Rows.bitsFirstSpec.pre6 enc Try.prog Try.f11 Rows.bitsFirstRow.domain false) (Rows.bitsFirstSpec.post enc Try.prog Try.f11 false true false false) := by
  refine returnsInHanded_of_change (C := Try.checked) own started (by kernel_rfl) Try.func11
    (ChangeSpec.witness6 (enc := enc) (C := Try.checked) false ⟨#[], #[.slice none 0 0, .int .i64 0], []⟩ 8 (by kernel_rfl) (by kernel_rfl) (by kernel_rfl) (by kernel_rfl)) ?_
  intro W base args ds gs before hval0 hW hcnd _
  have hval : ∀ (j : Nat) t v, Try.f11.params[j]? = some t → args[j]? = some v → Value.okWide Try.prog W .any base t v := hval0
  have hW' := hW
  obtain ⟨p, q, hA0, hV, rfl, hfz, hnd⟩ := hW
  have hA : DataW.TrodAll enc Try.prog W 0 (fun _ => true) true Try.f11.params.toList args.toList ds p := hA0
  rw [Try.params11] at hA hval
  obtain ⟨v0, vs0, d0, ds0, p0, q0, hargs, rfl, rfl, h0, r0⟩ := trodAll_cons hA
  obtain ⟨v1, vs1, d1, ds1, p1, q1, rfl, rfl, rfl, h1, r1⟩ := trodAll_cons r0
  obtain ⟨rfl, rfl, rfl⟩ := trodAll_nil r1
  obtain rfl : args = #[v0, v1] := by cases args; simp_all
  obtain ⟨rfl, rfl⟩ := trodVars_none hV
  obtain ⟨L0, f0, s0⟩ := open_ops (hval 0 64 v0 rfl rfl) h0
  obtain ⟨a1, rfl, rfl, rfl, w1⟩ := open_int Try.underlying3 (hval 1 3 v1 rfl rfl) h1
  have b1 := bounds_i64 w1
  refine (walk v0 L0 f0 a1 b1.1 b1.2 W s0).mono fun e W' ⟨he, hb⟩ => ?_
  subst he
  exact ⟨_, rfl, law_post hW' rfl rfl rfl (by kernel_rfl) hb⟩

/-- The statement. -/
theorem proved : Rows.BitsFirstSaid :=
  OpenClaim.holds_of_wide 11 Try.f11 rfl rfl rfl rfl rfl rfl rfl ⟨rfl, rfl, rfl, rfl, rfl⟩ rfl rfl rfl rfl rfl (by kernel_rfl) Try.func11 (by kernel_rfl)
    (of_decide_eq_true (by kernel_rfl)) (by unfold Func.isWrapper; first | (rw [if_pos (by decide +kernel)]; kernel_rfl) | (rw [if_neg (by decide +kernel)]; exact ⟨rfl, rfl⟩))
    (fun os started H enc _ => lifted os started H enc)
#print axioms proved
end Go.Proofs.Ytklhnibmpdaioaa.bitsFirst
