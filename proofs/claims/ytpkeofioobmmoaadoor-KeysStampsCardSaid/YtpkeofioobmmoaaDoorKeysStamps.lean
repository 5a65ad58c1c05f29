/-
  For all numbers and bytes the law KeysStamps of package casematelaw21 returns true: stamps and their parts are told, or are too great, and counters tell theirs, one by one. Condition: none.
-/
import Derived.Test.YtpkeofioobmmoaaDoorKQ
import Derived.Test.YtpkeofioobmmoaaDoorAeSE
import Derived.Test.YtpkeofioobmmoaaDoorShLaid
namespace Go.Proofs.YtpkeofioobmmoaaDoor.keysStamps
open Go.ChangeShapes Go.WideShapes Go.ChangeAt Go.RowKit Go.Proofs.YtpkeofioobmmoaaDoor.ae
set_option maxRecDepth 100000 in
set_option maxHeartbeats 1000000 in
theorem refStampOK (e c : Nat) (he : e ≤ 16777215) (hc : c ≤ 1099511627775) (w : World) : Calls Tryd.prog 13 #[.int .u64 e, .int .u64 c] w fun x w' => x = .returned (.tuple #[.int .u64 (stm e c : Nat), .int .i64 0]) ∧ w = w' := by
  have h1 : ¬ (16777216 : Int) ≤ e := by omega
  have h2 : ¬ (1099511627776 : Int) ≤ c := by omega
  have hs : (1099511627776 : Int) * e + c = ((stm e c : Nat) : Int) := by unfold stm; omega
  have hw : IntKind.u64.wrap (1099511627776 * (e : Int)) = 1099511627776 * (e : Int) := by
    have := u64nat (1099511627776 * e) (by omega)
    simpa using this
  have hw2 : IntKind.u64.wrap ((stm e c : Nat) : Int) = ((stm e c : Nat) : Int) := u64nat _ (by unfold stm; omega)
  generalize stm e c = s at hs hw2 ⊢
  go_enter Tryd.func13, Tryd.ntmps13
  go_wp2
  go_ret2
  exact ⟨rfl, rfl⟩
set_option maxRecDepth 100000 in
set_option maxHeartbeats 1000000 in
theorem refStampNo (e c : Nat) (h : 16777215 < e ∨ 1099511627775 < c) (w : World) : Calls Tryd.prog 13 #[.int .u64 e, .int .u64 c] w fun x w' => x = .returned (.tuple #[.int .u64 (0 : Nat), .int .i64 5]) ∧ w = w' := by
  by_cases h1 : (16777216 : Int) ≤ e
  · clear h
    go_enter Tryd.func13, Tryd.ntmps13
    go_wp2
    go_ret2
    exact ⟨rfl, rfl⟩
  · have h2 : (1099511627776 : Int) ≤ c := by omega
    clear h
    go_enter Tryd.func13, Tryd.ntmps13
    go_wp2
    go_ret2
    exact ⟨rfl, rfl⟩
theorem same13 (e c : Nat) (he : e ≤ 18446744073709551615) (hc : c ≤ 18446744073709551615) : ∃ (X : Nat) (E : Int), (∀ W : World, Calls Tryd.prog 12 #[.int .u64 e, .int .u64 c] W fun x w' => x = .returned (.tuple #[.int .u64 X, .int .i64 E]) ∧ W = w') ∧ (∀ W : World, Calls Tryd.prog 13 #[.int .u64 e, .int .u64 c] W fun x w' => x = .returned (.tuple #[.int .u64 X, .int .i64 E]) ∧ W = w') := by
  by_cases h : e ≤ 16777215 ∧ c ≤ 1099511627775
  · exact ⟨stm e c, 0, fun W => stampOK e c h.1 h.2 W, fun W => refStampOK e c h.1 h.2 W⟩
  · exact ⟨0, 5, fun W => stampNo e c he hc (by omega) W, fun W => refStampNo e c (by omega) W⟩
theorem land31 (n : Nat) (hn : n ≤ 255) : bits .and .u8 (n : Int) 31 = ((n % 32 : Nat) : Int) := by
  have := and8 n 31 (by omega) (by omega)
  rw [show Nat.land n 31 = n % 32 from Nat.and_two_pow_sub_one_eq_mod n 5] at this
  exact this
set_option maxRecDepth 100000 in
set_option maxHeartbeats 4000000 in
theorem walkNo (e c s n : Nat) (he : e ≤ 18446744073709551615) (hc : c ≤ 18446744073709551615) (hs : s ≤ 18446744073709551615) (h : 16777215 < e) (w : World) (hG : sh.Glob w) :
    Calls Tryd.prog 3 #[.int .u64 e, .int .u64 c, .int .u64 s, .int .u8 n] w fun x w' => x = .returned (.bool true) ∧ Below w.heap.size w w' := by
  obtain ⟨X, E, sa, sb⟩ := same13 e c he hc
  have SA := Lib.hid sa
  have SB := Lib.hid sb
  have PS : Hid (∀ W : World, Calls Tryd.prog 14 #[.int .u64 s] W fun x w' => x = .returned (.tuple #[.int .u64 (s / 1099511627776 : Nat), .int .u64 (s % 1099511627776 : Nat)]) ∧ W = w') := fun W => partsC s hs W
  have CN : Hid (∀ W : World, Calls Tryd.prog 15 #[.int .u64 e] W fun x w' => x = .returned (.tuple #[.pointer none, .int .i64 5]) ∧ W = w') := fun W => countNo e h W
  have t0 : (16777216 : Int) ≤ e := by omega
  have t1 : ((X : Int) != (X : Int)) = false := by simp
  have t2 : (E != E) = false := by simp
  have hd : IntKind.u64.wrap ((s : Int) / 1099511627776) = ((s / 1099511627776 : Nat) : Int) := u64nat (s / 1099511627776) (by omega)
  have hm : (((s % 1099511627776 : Nat) : Int) != (s : Int) % 1099511627776) = false := by
    rw [show (s : Int) % 1099511627776 = ((s % 1099511627776 : Nat) : Int) by omega]; simp
  generalize s / 1099511627776 = p at PS hd
  generalize s % 1099511627776 = q at PS hm
  have AL := Lib.hid (alive21 w hG)
  clear sa sb he hc hs h hG
  go_enter Tryd.func3, Tryd.ntmps3
  go_wp2_with fail
  refine (SA.out _).mono ?_
  rintro e w1 ⟨rfl, rfl⟩
  go_wp2_with fail
  refine (SB.out _).mono ?_
  rintro e w1 ⟨rfl, rfl⟩
  go_wp2_with fail
  refine (PS.out _).mono ?_
  rintro e w1 ⟨rfl, rfl⟩
  go_wp2_with fail
  refine (CN.out _).mono ?_
  rintro e w1 ⟨rfl, rfl⟩
  go_wp2_with fail
  refine AL.out.mono ?_
  rintro e w1 ⟨rfl, hb⟩
  have HB := Lib.hid hb
  clear hb
  go_wp2_with fail
  go_ret
  exact ⟨rfl, HB.out⟩
set_option maxRecDepth 100000 in
set_option maxHeartbeats 8000000 in
theorem walk (e c s n : Nat) (he : e ≤ 16777215) (hc : c ≤ 18446744073709551615) (hs : s ≤ 18446744073709551615) (hn : n ≤ 255) (w : World) (hG : sh.Glob w) :
    Calls Tryd.prog 3 #[.int .u64 e, .int .u64 c, .int .u64 s, .int .u8 n] w fun x w' => x = .returned (.bool true) ∧ Below w.heap.size w w' := by
  obtain ⟨X, E, sa, sb⟩ := same13 e c (by omega) hc
  have SA := Lib.hid sa
  have SB := Lib.hid sb
  have PS : Hid (∀ W : World, Calls Tryd.prog 14 #[.int .u64 s] W fun x w' => x = .returned (.tuple #[.int .u64 (s / 1099511627776 : Nat), .int .u64 (s % 1099511627776 : Nat)]) ∧ W = w') := fun W => partsC s hs W
  have CN : Hid (∀ W : World, Calls Tryd.prog 15 #[.int .u64 e] W fun x w' => x = .returned (.tuple #[.pointer (some ⟨W.heap.size, 0, none⟩), .int .i64 0]) ∧ CT w' W.heap.size e 0 ∧ Below W.heap.size W w') := fun W => countOK e he W
  have NX : Hid (∀ (W : World) (g j : Nat), 1 ≤ j → j ≤ 32 → CT W g e (j - 1) → Calls Tryd.prog 17 #[.pointer (some ⟨g, 0, none⟩)] W fun x w' => x = .returned (.tuple #[.int .u64 (stm e j : Nat), .int .i64 0]) ∧ CT w' g e j ∧ Elsewhere g W w') := fun W g j h1 h2 h => by
    have := nextC g e (j - 1) he (by omega) W h
    unfold NextP at this
    rw [show j - 1 + 1 = j by omega] at this
    exact this
  have EP : Hid (∀ (W : World) (g j : Nat), CT W g e j → Calls Tryd.prog 18 #[.pointer (some ⟨g, 0, none⟩)] W fun x w' => x = .returned (.int .u64 e) ∧ W = w') := fun W g j h => epochC g e j W h
  have t0 : ¬ (16777216 : Int) ≤ e := by omega
  have t1 : ((X : Int) != (X : Int)) = false := by simp
  have t2 : (E != E) = false := by simp
  have hd : IntKind.u64.wrap ((s : Int) / 1099511627776) = ((s / 1099511627776 : Nat) : Int) := u64nat (s / 1099511627776) (by omega)
  have hm : (((s % 1099511627776 : Nat) : Int) != (s : Int) % 1099511627776) = false := by
    rw [show (s : Int) % 1099511627776 = ((s % 1099511627776 : Nat) : Int) by omega]; simp
  generalize s / 1099511627776 = p at PS hd
  generalize s % 1099511627776 = q at PS hm
  have hnd := land31 n hn
  obtain ⟨m, hmm⟩ : ∃ m, m = n % 32 := ⟨_, rfl⟩
  rw [← hmm] at hnd
  have hm32 : m ≤ 31 := by omega
  have hm32i : (m : Int) ≤ 31 := by omega
  have wm : IntKind.i64.wrap (m : Int) = (m : Int) := IntWalk.i64_in _ (by omega)
  have AL : Hid (∀ W : World, sh.Glob W → Calls Tryd.prog 16 #[] W fun e w' => e = .returned (.bool true) ∧ Below W.heap.size W w') := fun W hg => alive21 W hg
  have HG := Lib.hid hG
  have HE := Lib.hid he
  have h2w : Hid (2 ≤ w.heap.size) := hG.lt
  have ee : ((e : Int) == (e : Int)) = true := by simp
  have EE := Lib.hid ee
  have HND := Lib.hid hnd
  have HM := Lib.hid hm32
  clear sa sb he hc hs hn hG ee hmm hm32
  go_enter Tryd.func3, Tryd.ntmps3
  go_wp2_with fail
  refine (SA.out _).mono ?_
  rintro e w1 ⟨rfl, rfl⟩
  go_wp2_with fail
  refine (SB.out _).mono ?_
  rintro e w1 ⟨rfl, rfl⟩
  go_wp2_with fail
  refine (PS.out _).mono ?_
  rintro e w1 ⟨rfl, rfl⟩
  go_wp2_with fail
  refine (CN.out _).mono ?_
  rintro e w1 ⟨rfl, hct, hb⟩
  have C0 := Lib.hid hct
  have B0 := Lib.hid hb
  clear hct hb SA SB PS CN
  go_upto_region 7 with fail
  clear t0 hm hd t1 t2 hnd
  have t9 : decide ((16777216 : Int) ≤ (e : Int)) = false := by have := HE.out; simp; omega
  go_wp2_with fail
  clear t9
  obtain ⟨g, hg⟩ : ∃ g, g = w.heap.size := ⟨_, rfl⟩
  rw [← hg] at C0 ⊢
  have HGW := Lib.hid hg
  clear hg
  go_loopw [17, 18, 19] (fun vi _ _ wr => ∃ j : Nat, 1 ≤ j ∧ j ≤ m + 1 ∧ vi = .int .i64 (j : Int) ∧ CT wr g e (j - 1) ∧ Below g w wr) (fun vi _ _ _ => 40 - (intOf vi).toNat)
  case atStart => exact ⟨1, by omega, by omega, rfl, C0.out, by rw [HGW.out]; exact B0.out⟩
  case round =>
    clear C0 B0
    obtain ⟨j, h1, h2, rfl, hct, hbel⟩ := hrel
    have hnd := HND.out
    have CJ := Lib.hid hct
    have BJ := Lib.hid hbel
    have H1 := Lib.hid h1
    by_cases hlt : j ≤ m
    · have H2 := Lib.hid hlt
      have hj : (j : Int) ≤ (m : Int) := by omega
      have hj0 : (1 : Int) ≤ (j : Int) := by omega
      have w1 : IntKind.u64.wrap (j : Int) = (j : Int) := u64nat j (by have := HM.out; omega)
      have w2 : IntKind.u64.wrap (1099511627776 * (e : Int)) = 1099511627776 * (e : Int) := by
        have := u64nat (1099511627776 * e) (by have := HE.out; omega)
        simpa using this
      have w3 : IntKind.u64.wrap (1099511627776 * (e : Int) + (j : Int)) = 1099511627776 * (e : Int) + (j : Int) := by
        have := u64nat (1099511627776 * e + j) (by have := HE.out; have := HM.out; omega)
        simpa using this
      have hst : (((stm e j : Nat) : Int) != 1099511627776 * (e : Int) + (j : Int)) = false := by unfold stm; simp
      have nx : Calls Tryd.prog 17 #[.pointer (some ⟨g, 0, none⟩)] wr fun x w' => x = .returned (.tuple #[.int .u64 (stm e j : Nat), .int .i64 0]) ∧ CT w' g e j ∧ Elsewhere g wr w' := NX.out wr g j h1 (by have := HM.out; omega) hct
      generalize stm e j = sj at nx hst
      have NXJ := Lib.hid nx
      clear h1 h2 hct hbel hlt nx
      go_wp2_with fail
      refine NXJ.out.mono ?_
      rintro e w9 ⟨rfl, hct, hel⟩
      have C9 := Lib.hid hct
      have B9 := Lib.hid (hel.2.1 _ _ (Nat.le_refl _) (by have := blk_lt CJ.out; omega) BJ.out)
      clear hct hel NXJ
      go_wp2_with fail
      go_roundw
      case rel => exact ⟨j + 1, by omega, by have := H2.out; omega, by go_num, C9.out, B9.out⟩
      case measure => have := HM.out; have := H2.out; simp [intOf]; omega
    · have hj : ¬ (j : Int) ≤ (m : Int) := by omega
      have al : Below wr.heap.size wr (wr.alloc (.cells #[.bool false, .int .u64 0, .int .u64 0] 34)) := (Below.refl _ _).alloc (Nat.le_refl _) _
      have C1 := Lib.hid (CT.below hct al)
      have b1 := hbel.trans (al.mono (by have := hbel.size; have := HGW.out; omega))
      have B1 := Lib.hid b1
      have G1 := Lib.hid (HG.out.below (by rw [HGW.out] at b1; exact b1) HG.out.lt)
      have hz := nextZero wr.heap.size #[.bool false, .int .u64 0, .int .u64 0] 34 (0, 0) (wr.alloc (.cells #[.bool false, .int .u64 0, .int .u64 0] 34)) (heap_alloc_new wr _) rfl
      have NZ := Lib.hid hz
      clear h1 h2 hct hbel hlt al b1 hz CJ BJ NX
      go_wp2_with fail
      refine (nextNil _).mono ?_
      rintro e w9 ⟨rfl, rfl⟩
      go_wp2_with fail
      refine NZ.out.mono ?_
      rintro e w9 ⟨rfl, rfl⟩
      go_wp2_with fail
      refine (AL.out _ G1.out).mono ?_
      rintro e w9 ⟨rfl, hb⟩
      have C9 := Lib.hid (C1.out.below hb)
      have B9 := Lib.hid (B1.out.trans (hb.mono (by have := B1.out.size; have := HGW.out; omega)))
      have ee := EE.out
      clear hb
      go_wp2_with fail
      refine (EP.out _ _ _ C9.out).mono ?_
      rintro e w9 ⟨rfl, rfl⟩
      go_wp2_with fail
      refine (epochNil _).mono ?_
      rintro e w9 ⟨rfl, rfl⟩
      go_wp2_with fail
      go_ret
      exact ⟨rfl, by rw [← HGW.out]; exact B9.out⟩
theorem all (e c s : Nat) (n : Int) (he : e ≤ 18446744073709551615) (hc : c ≤ 18446744073709551615) (hs : s ≤ 18446744073709551615) (hn : 0 ≤ n ∧ n ≤ 255) (w : World) (hG : sh.Glob w) :
    Calls Tryd.prog 3 #[.int .u64 e, .int .u64 c, .int .u64 s, .int .u8 n] w fun x w' => x = .returned (.bool true) ∧ Below w.heap.size w w' := by
  obtain ⟨k, rfl⟩ : ∃ k : Nat, n = k := ⟨n.toNat, by omega⟩
  by_cases h : e ≤ 16777215
  · exact walk e c s k h hc hs (by omega) w hG
  · exact walkNo e c s k he hc hs (by omega) w hG

set_option maxRecDepth 100000 in
theorem lifted (os : Os) (started : os.Started) (H : Type) (enc : TypeId × Value → H) :
    ReturnsInHanded {} Tryd.checked os 3 .any (fun w args => (Rows.keysStampsSpec.pre enc Tryd.prog Tryd.f3 [] false w args ∧ laidMetH Tryd.prog sh.laid2 w) ∧ sizedMet enc Tryd.prog Tryd.f3 (OpenSpec.ofChange Rows.keysStampsSpec) false w args)
      (Rows.keysStampsSpec.post enc Tryd.prog Tryd.f3 false true false false) := by
  refine returnsInHanded_of_change_and (C := Tryd.checked) (X := fun w _ => laidMetH Tryd.prog sh.laid2 w) (fun _ _ _ hh h => h.of_heap hh) sh.own started (by kernel_rfl) Tryd.func3
    (ChangeSpec.witness_shaped (enc := enc) (C := Tryd.checked) (os := os) (X := fun w _ => laidMetH Tryd.prog sh.laid2 w) false (World.doorLaid Tryd.prog 400 os) #[.int .u64 0, .int .u64 0, .int .u64 0, .int .u8 0] 8 rfl (World.shaped_of_RefB (by kernel_rfl) (by kernel_rfl)) (by kernel_rfl) (by kernel_rfl) (by kernel_rfl) (sh.door_met os _)) ?_
  intro W base args ds gs before hval0 hW _ _ hL _
  have hval : ∀ (j : Nat) t v, Tryd.f3.params[j]? = some t → args[j]? = some v → Value.okWide Tryd.prog W .any base t v := hval0
  have hW' := hW
  obtain ⟨p, q, hA0, hV, rfl, hfz, hnd⟩ := hW
  have hA : DataW.TrodAll enc Tryd.prog W 0 (fun _ => true) true Tryd.f3.params.toList args.toList ds p := hA0
  rw [Tryd.params3] at hA hval
  obtain ⟨v0, vs0, d0, ds0, p0, q0, hargs, rfl, rfl, h0, r0⟩ := trodAll_cons hA
  obtain ⟨v1, vs1, d1, ds1, p1, q1, rfl, rfl, rfl, h1, r1⟩ := trodAll_cons r0
  obtain ⟨v2, vs2, d2, ds2, p2, q2, rfl, rfl, rfl, h2, r2⟩ := trodAll_cons r1
  obtain ⟨v3, vs3, d3, ds3, p3, q3, rfl, rfl, rfl, h3, r3⟩ := trodAll_cons r2
  obtain ⟨rfl, rfl, rfl⟩ := trodAll_nil r3
  obtain rfl : args = #[v0, v1, v2, v3] := by cases args; simp_all
  obtain ⟨rfl, rfl⟩ := trodVars_none hV
  obtain ⟨a0, rfl, rfl, rfl, w0⟩ := open_int Tryd.underlying22 (hval 0 22 v0 rfl rfl) h0
  have b0 := bounds_u64 w0
  obtain ⟨n0, rfl⟩ : ∃ n : Nat, a0 = n := ⟨a0.toNat, by omega⟩
  obtain ⟨a1, rfl, rfl, rfl, w1⟩ := open_int Tryd.underlying22 (hval 1 22 v1 rfl rfl) h1
  have b1 := bounds_u64 w1
  obtain ⟨n1, rfl⟩ : ∃ n : Nat, a1 = n := ⟨a1.toNat, by omega⟩
  obtain ⟨a2, rfl, rfl, rfl, w2⟩ := open_int Tryd.underlying22 (hval 2 22 v2 rfl rfl) h2
  have b2 := bounds_u64 w2
  obtain ⟨n2, rfl⟩ : ∃ n : Nat, a2 = n := ⟨a2.toNat, by omega⟩
  obtain ⟨a3, rfl, rfl, rfl, w3⟩ := open_int Tryd.underlying5 (hval 3 5 v3 rfl rfl) h3
  have b3 := bounds_u8 w3
  refine (all n0 n1 n2 a3 (by omega) (by omega) (by omega) b3 W (sh.of_laid hL)).mono fun e W' ⟨he, hb⟩ => ?_
  subst he
  exact ⟨_, rfl, sh.law_post hW' rfl rfl rfl (by kernel_rfl) hb⟩
/-- The row's statement. -/
theorem row_holds : Rows.KeysStampsSaid :=
  OpenClaim.holds_of_wide 3 Tryd.f3 rfl rfl rfl rfl rfl rfl rfl ⟨rfl, rfl, rfl, rfl, rfl⟩ rfl rfl rfl rfl rfl (by kernel_rfl) Tryd.func3 (by kernel_rfl)
    (of_decide_eq_true (by kernel_rfl)) (by unfold Func.isWrapper; first | (rw [if_pos (by decide +kernel)]; kernel_rfl) | (rw [if_neg (by decide +kernel)]; exact ⟨rfl, rfl⟩))
    (fun os started H enc _ => lifted os started H enc)
/-- The tied card. -/
theorem proved : Rows.KeysStampsCardSaid :=
  Claim7.holds_tied_plain_at .later [] [.data, .data] true (true, "0457159e5fbc900da0b901a90696513c7756748e29878623afbd297629de2456") false
    row_holds (fun _ h => by cases h) (by kernel_rfl) (fun _ h => by cases h) Go.Proofs.YtpkeofioobmmoaaDoor.keysStamps_row_tie rfl ⟨rfl, rfl⟩ (by kernel_rfl) rfl
    (fun f fn hf hfn => by
      obtain rfl : f = 3 := Option.some.inj ((show Tryd.prog.funcNamed "casemate/casematelaw21.KeysStamps" = some 3 by kernel_rfl).symm.trans hf) |>.symm
      obtain rfl : fn = Tryd.f3 := (Option.some.inj (Tryd.func3.symm.trans hfn)).symm
      exact ⟨by kernel_rfl, fun j t ht => by
        rw [Tryd.params3] at ht
        have hm : t ∈ [22, 22, 22, 5] := by simpa using Array.mem_of_getElem? ht
        have hall : ([22, 22, 22, 5].all fun u => !Tryd.prog.wantsStandIn u) = true := by kernel_rfl
        exact (show Tryd.prog.wantsStandIn t = false by simpa using List.all_eq_true.1 hall t hm)⟩)
    (by kernel_rfl)
#print axioms proved
end Go.Proofs.YtpkeofioobmmoaaDoor.keysStamps
