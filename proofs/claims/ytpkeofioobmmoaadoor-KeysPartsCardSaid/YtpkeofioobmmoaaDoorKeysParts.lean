/-
  For all numbers the law KeysParts of package casematelaw21 returns true: a stamp's parts make it again, and unlike parts make unlike stamps. Condition: none.
-/
import Derived.Test.YtpkeofioobmmoaaDoorKQ
import Derived.Test.YtpkeofioobmmoaaDoorAeSE
import Derived.Test.YtpkeofioobmmoaaDoorShLaid
namespace Go.Proofs.YtpkeofioobmmoaaDoor.keysParts
open Go.ChangeShapes Go.WideShapes Go.ChangeAt Go.RowKit Go.Proofs.YtpkeofioobmmoaaDoor.ae
theorem stm_inj {a b c d : Nat} (hb : b ≤ 1099511627775) (hd : d ≤ 1099511627775) : stm a b = stm c d ↔ a = c ∧ b = d := by
  unfold stm
  constructor
  · intro h; omega
  · rintro ⟨rfl, rfl⟩; rfl
set_option maxRecDepth 100000 in
set_option maxHeartbeats 4000000 in
theorem core (a b c d s X Y U V p q : Nat) (E F : Int) (w : World) (hG : sh.Glob w)
    (SA : Hid (∀ W : World, Calls Tryd.prog 12 #[.int .u64 a, .int .u64 b] W fun x w' => x = .returned (.tuple #[.int .u64 X, .int .i64 E]) ∧ W = w'))
    (SC : Hid (∀ W : World, Calls Tryd.prog 12 #[.int .u64 c, .int .u64 d] W fun x w' => x = .returned (.tuple #[.int .u64 Y, .int .i64 F]) ∧ W = w'))
    (PS : Hid (∀ W : World, Calls Tryd.prog 14 #[.int .u64 s] W fun x w' => x = .returned (.tuple #[.int .u64 p, .int .u64 q]) ∧ W = w'))
    (SP : Hid (∀ W : World, Calls Tryd.prog 12 #[.int .u64 p, .int .u64 q] W fun x w' => x = .returned (.tuple #[.int .u64 s, .int .i64 0]) ∧ W = w'))
    (PX : Hid (∀ W : World, Calls Tryd.prog 14 #[.int .u64 X] W fun x w' => x = .returned (.tuple #[.int .u64 U, .int .u64 V]) ∧ W = w'))
    (tests : Hid (((E == 0) = false ∧ (E != 0) = true) ∨ ((E == 0) = true ∧ (E != 0) = false ∧ ((U : Int) != (a : Int)) = false ∧ ((V : Int) != (b : Int)) = false ∧ (((F == 0) = false ∧ (F != 0) = true) ∨ ((F == 0) = true ∧ (F != 0) = false ∧ ((((X : Int) == (Y : Int)) = true ∧ ((a : Int) == (c : Int)) = true ∧ ((b : Int) == (d : Int)) = true) ∨ (((X : Int) == (Y : Int)) = false ∧ ((a : Int) == (c : Int)) = false) ∨ (((X : Int) == (Y : Int)) = false ∧ ((a : Int) == (c : Int)) = true ∧ ((b : Int) == (d : Int)) = false))))))) :
    Calls Tryd.prog 6 #[.int .u64 a, .int .u64 b, .int .u64 c, .int .u64 d, .int .u64 s] w fun e w' => e = .returned (.bool true) ∧ Below w.heap.size w w' := by
  have ss : ((s : Int) != (s : Int)) = false := by simp
  have AL := Lib.hid (alive21 w hG)
  have SS := Lib.hid ss
  clear hG ss
  rcases tests.out with ⟨e1, e2⟩ | ⟨e1, e2, u1, u2, ⟨f1, f2⟩ | ⟨f1, f2, ⟨x1, x2, x3⟩ | ⟨x1, x2⟩ | ⟨x1, x2, x3⟩⟩⟩
  all_goals
    clear tests
    go_enter Tryd.func6, Tryd.ntmps6
    go_wp2_with fail
    refine (SA.out _).mono ?_
    rintro e w1 ⟨rfl, rfl⟩
    go_wp2_with fail
    refine (SC.out _).mono ?_
    rintro e w1 ⟨rfl, rfl⟩
    go_wp2_with fail
    refine (PS.out _).mono ?_
    rintro e w1 ⟨rfl, rfl⟩
    go_wp2_with fail
    refine (SP.out _).mono ?_
    rintro e w1 ⟨rfl, rfl⟩
    go_wp2_with fail
    refine (PX.out _).mono ?_
    rintro e w1 ⟨rfl, rfl⟩
    have ss := SS.out
    go_wp2_with fail
    refine AL.out.mono ?_
    rintro e w1 ⟨rfl, hb⟩
    have HB := Lib.hid hb
    clear hb
    go_wp2_with fail
    go_ret
    exact ⟨rfl, HB.out⟩
theorem all (a b c d s : Nat) (ha : a ≤ 18446744073709551615) (hb : b ≤ 18446744073709551615) (hc : c ≤ 18446744073709551615) (hd : d ≤ 18446744073709551615) (hs : s ≤ 18446744073709551615) (w : World) (hG : sh.Glob w) :
    Calls Tryd.prog 6 #[.int .u64 a, .int .u64 b, .int .u64 c, .int .u64 d, .int .u64 s] w fun e w' => e = .returned (.bool true) ∧ Below w.heap.size w w' := by
  have PS : Hid (∀ W : World, Calls Tryd.prog 14 #[.int .u64 s] W fun x w' => x = .returned (.tuple #[.int .u64 (s / 1099511627776 : Nat), .int .u64 (s % 1099511627776 : Nat)]) ∧ W = w') := fun W => partsC s hs W
  have es : stm (s / 1099511627776) (s % 1099511627776) = s := by unfold stm; omega
  have SP : Hid (∀ W : World, Calls Tryd.prog 12 #[.int .u64 (s / 1099511627776 : Nat), .int .u64 (s % 1099511627776 : Nat)] W fun x w' => x = .returned (.tuple #[.int .u64 s, .int .i64 0]) ∧ W = w') := fun W => by
    have := stampOK (s / 1099511627776) (s % 1099511627776) (by omega) (by omega) W
    rw [es] at this
    exact this
  by_cases h1 : a ≤ 16777215 ∧ b ≤ 1099511627775
  · have SA : Hid (∀ W : World, Calls Tryd.prog 12 #[.int .u64 a, .int .u64 b] W fun x w' => x = .returned (.tuple #[.int .u64 (stm a b : Nat), .int .i64 0]) ∧ W = w') := fun W => stampOK a b h1.1 h1.2 W
    have PX : Hid (∀ W : World, Calls Tryd.prog 14 #[.int .u64 (stm a b : Nat)] W fun x w' => x = .returned (.tuple #[.int .u64 a, .int .u64 b]) ∧ W = w') := fun W => by
      have := partsC (stm a b) (by unfold stm; omega) W
      rw [show stm a b / 1099511627776 = a by unfold stm; omega, show stm a b % 1099511627776 = b by unfold stm; omega] at this
      exact this
    by_cases h2 : c ≤ 16777215 ∧ d ≤ 1099511627775
    · have SC : Hid (∀ W : World, Calls Tryd.prog 12 #[.int .u64 c, .int .u64 d] W fun x w' => x = .returned (.tuple #[.int .u64 (stm c d : Nat), .int .i64 0]) ∧ W = w') := fun W => stampOK c d h2.1 h2.2 W
      have hi := stm_inj (a := a) (c := c) h1.2 h2.2
      refine core a b c d s _ _ a b _ _ 0 0 w hG SA SC PS SP PX (.inr ⟨rfl, rfl, by simp, by simp, .inr ⟨rfl, rfl, ?_⟩⟩)
      by_cases e1 : a = c
      · by_cases e2 : b = d
        · have := hi.2 ⟨e1, e2⟩
          exact .inl ⟨by simp [this], by simp [e1], by simp [e2]⟩
        · have : stm a b ≠ stm c d := fun h => e2 (hi.1 h).2
          exact .inr (.inr ⟨by simp; omega, by simp [e1], by simp; omega⟩)
      · have : stm a b ≠ stm c d := fun h => e1 (hi.1 h).1
        exact .inr (.inl ⟨by simp; omega, by simp; omega⟩)
    · have SC : Hid (∀ W : World, Calls Tryd.prog 12 #[.int .u64 c, .int .u64 d] W fun x w' => x = .returned (.tuple #[.int .u64 (0 : Nat), .int .i64 5]) ∧ W = w') := fun W => stampNo c d hc hd (by omega) W
      exact core a b c d s _ _ a b _ _ 0 5 w hG SA SC PS SP PX (.inr ⟨rfl, rfl, by simp, by simp, .inl ⟨rfl, rfl⟩⟩)
  · have SA : Hid (∀ W : World, Calls Tryd.prog 12 #[.int .u64 a, .int .u64 b] W fun x w' => x = .returned (.tuple #[.int .u64 (0 : Nat), .int .i64 5]) ∧ W = w') := fun W => stampNo a b ha hb (by omega) W
    have PX : Hid (∀ W : World, Calls Tryd.prog 14 #[.int .u64 (0 : Nat)] W fun x w' => x = .returned (.tuple #[.int .u64 (0 : Nat), .int .u64 (0 : Nat)]) ∧ W = w') := fun W => partsC 0 (by omega) W
    have SC : ∃ (Y : Nat) (F : Int), Hid (∀ W : World, Calls Tryd.prog 12 #[.int .u64 c, .int .u64 d] W fun x w' => x = .returned (.tuple #[.int .u64 Y, .int .i64 F]) ∧ W = w') := by
      by_cases h2 : c ≤ 16777215 ∧ d ≤ 1099511627775
      · exact ⟨stm c d, 0, fun W => stampOK c d h2.1 h2.2 W⟩
      · exact ⟨0, 5, fun W => stampNo c d hc hd (by omega) W⟩
    obtain ⟨Y, F, SC⟩ := SC
    exact core a b c d s _ _ 0 0 _ _ 5 F w hG SA SC PS SP PX (.inl ⟨rfl, rfl⟩)

set_option maxRecDepth 100000 in
theorem lifted (os : Os) (started : os.Started) (H : Type) (enc : TypeId × Value → H) :
    ReturnsInHanded {} Tryd.checked os 6 .any (fun w args => (Rows.keysPartsSpec.pre enc Tryd.prog Tryd.f6 [] false w args ∧ laidMetH Tryd.prog sh.laid2 w) ∧ sizedMet enc Tryd.prog Tryd.f6 (OpenSpec.ofChange Rows.keysPartsSpec) false w args)
      (Rows.keysPartsSpec.post enc Tryd.prog Tryd.f6 false true false false) := by
  refine returnsInHanded_of_change_and (C := Tryd.checked) (X := fun w _ => laidMetH Tryd.prog sh.laid2 w) (fun _ _ _ hh h => h.of_heap hh) sh.own started (by kernel_rfl) Tryd.func6
    (ChangeSpec.witness_shaped (enc := enc) (C := Tryd.checked) (os := os) (X := fun w _ => laidMetH Tryd.prog sh.laid2 w) false (World.doorLaid Tryd.prog 400 os) #[.int .u64 0, .int .u64 0, .int .u64 0, .int .u64 0, .int .u64 0] 8 rfl (World.shaped_of_RefB (by kernel_rfl) (by kernel_rfl)) (by kernel_rfl) (by kernel_rfl) (by kernel_rfl) (sh.door_met os _)) ?_
  intro W base args ds gs before hval0 hW _ _ hL _
  have hval : ∀ (j : Nat) t v, Tryd.f6.params[j]? = some t → args[j]? = some v → Value.okWide Tryd.prog W .any base t v := hval0
  have hW' := hW
  obtain ⟨p, q, hA0, hV, rfl, hfz, hnd⟩ := hW
  have hA : DataW.TrodAll enc Tryd.prog W 0 (fun _ => true) true Tryd.f6.params.toList args.toList ds p := hA0
  rw [Tryd.params6] at hA hval
  obtain ⟨v0, vs0, d0, ds0, p0, q0, hargs, rfl, rfl, h0, r0⟩ := trodAll_cons hA
  obtain ⟨v1, vs1, d1, ds1, p1, q1, rfl, rfl, rfl, h1, r1⟩ := trodAll_cons r0
  obtain ⟨v2, vs2, d2, ds2, p2, q2, rfl, rfl, rfl, h2, r2⟩ := trodAll_cons r1
  obtain ⟨v3, vs3, d3, ds3, p3, q3, rfl, rfl, rfl, h3, r3⟩ := trodAll_cons r2
  obtain ⟨v4, vs4, d4, ds4, p4, q4, rfl, rfl, rfl, h4, r4⟩ := trodAll_cons r3
  obtain ⟨rfl, rfl, rfl⟩ := trodAll_nil r4
  obtain rfl : args = #[v0, v1, v2, v3, v4] := by cases args; simp_all
  obtain ⟨rfl, rfl⟩ := trodVars_none hV
  obtain ⟨a0, rfl, rfl, rfl, w0⟩ := open_int Tryd.underlying22 (hval 0 22 v0 rfl rfl) h0
  have b0 := bounds_u64 w0
  obtain ⟨n0, rfl⟩ : ∃ n : Nat, a0 = n := ⟨a0.toNat, by omega⟩
  obtain ⟨a1, rfl, rfl, rfl, w1⟩ := open_int Tryd.underlying22 (hval 1 22 v1 rfl rfl) h1
  have b1 := bounds_u64 w1
  obtain ⟨n1, rfl⟩ : ∃ n : Nat, a1 = n := ⟨a1.toNat, by omega⟩
  obtain ⟨a2, rfl, rfl, rfl, w2⟩ := open_int Tryd.underlying22 (hval 2 22 v2 rfl rfl) h2
  have b2 := bounds_u64 w2
  obtain ⟨n2, rfl⟩ : ∃ n : Nat, a2 = n := ⟨a2.toNat, by omega⟩
  obtain ⟨a3, rfl, rfl, rfl, w3⟩ := open_int Tryd.underlying22 (hval 3 22 v3 rfl rfl) h3
  have b3 := bounds_u64 w3
  obtain ⟨n3, rfl⟩ : ∃ n : Nat, a3 = n := ⟨a3.toNat, by omega⟩
  obtain ⟨a4, rfl, rfl, rfl, w4⟩ := open_int Tryd.underlying22 (hval 4 22 v4 rfl rfl) h4
  have b4 := bounds_u64 w4
  obtain ⟨n4, rfl⟩ : ∃ n : Nat, a4 = n := ⟨a4.toNat, by omega⟩
  refine (all n0 n1 n2 n3 n4 (by omega) (by omega) (by omega) (by omega) (by omega) W (sh.of_laid hL)).mono fun e W' ⟨he, hb⟩ => ?_
  subst he
  exact ⟨_, rfl, sh.law_post hW' rfl rfl rfl (by kernel_rfl) hb⟩
/-- The row's statement. -/
theorem row_holds : Rows.KeysPartsSaid :=
  OpenClaim.holds_of_wide 6 Tryd.f6 rfl rfl rfl rfl rfl rfl rfl ⟨rfl, rfl, rfl, rfl, rfl⟩ rfl rfl rfl rfl rfl (by kernel_rfl) Tryd.func6 (by kernel_rfl)
    (of_decide_eq_true (by kernel_rfl)) (by unfold Func.isWrapper; first | (rw [if_pos (by decide +kernel)]; kernel_rfl) | (rw [if_neg (by decide +kernel)]; exact ⟨rfl, rfl⟩))
    (fun os started H enc _ => lifted os started H enc)
/-- The tied card. -/
theorem proved : Rows.KeysPartsCardSaid :=
  Claim7.holds_tied_plain_at .later [] [.data, .data] true (true, "0457159e5fbc900da0b901a90696513c7756748e29878623afbd297629de2456") false
    row_holds (fun _ h => by cases h) (by kernel_rfl) (fun _ h => by cases h) Go.Proofs.YtpkeofioobmmoaaDoor.keysParts_row_tie rfl ⟨rfl, rfl⟩ (by kernel_rfl) rfl
    (fun f fn hf hfn => by
      obtain rfl : f = 6 := Option.some.inj ((show Tryd.prog.funcNamed "casemate/casematelaw21.KeysParts" = some 6 by kernel_rfl).symm.trans hf) |>.symm
      obtain rfl : fn = Tryd.f6 := (Option.some.inj (Tryd.func6.symm.trans hfn)).symm
      exact ⟨by kernel_rfl, fun j t ht => by
        rw [Tryd.params6] at ht
        have hm : t ∈ [22, 22, 22, 22, 22] := by simpa using Array.mem_of_getElem? ht
        have hall : ([22, 22, 22, 22, 22].all fun u => !Tryd.prog.wantsStandIn u) = true := by kernel_rfl
        exact (show Tryd.prog.wantsStandIn t = false by simpa using List.all_eq_true.1 hall t hm)⟩)
    (by kernel_rfl)
#print axioms proved
end Go.Proofs.YtpkeofioobmmoaaDoor.keysParts
