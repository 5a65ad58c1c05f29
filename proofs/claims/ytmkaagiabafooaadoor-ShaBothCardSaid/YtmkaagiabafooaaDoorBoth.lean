/-
  For all texts a, b and c the law ShaBoth of package casematelaw02 returns true, and they read afterwards as before: how a text is parted, and empty texts between, are of no matter to the sum of all. Condition: the package's two tables read, when the call begins, as their declarations lay them (the card ties that to the program's text).
-/
import Derived.Test.YtmkaagiabafooaaDoorAlive
import Derived.Test.YtmkaagiabafooaaDoorLaid
namespace Go.Proofs.YtmkaagiabafooaaDoor.shaBoth
open Go.ChangeShapes Go.WideShapes Go.ChangeAt Go.RowKit
/-- An append whose run is known, in a plain region, where a guard lets it by. -/
theorem wpList_app_want {ops : Array Oper} {rest : List Oper} {o : Oper} {a : Act} {w : World} {Q : Exit → Act → World → Prop} (hw : Region.wanted o (yielded ops a.tmps) = true) (s x : Operand)
    (ho : o.op = .call { callee := .builtin .append, args := #[s, x], argTypes := #[22, 22] }) (hty : o.type = 22) {v u v' : Value} {w' : World} (hs : a.eval s = v) (hx : a.eval x = u)
    (hr : (Builtin.append_ #[22, 22] 22 #[v, u]).run Tryd.prog w = .ok v' w') (h : wpList Tryd.prog ops Q rest (a.put o.dst v') w') : wpList Tryd.prog ops Q (o :: rest) a w := by
  refine wpList_step fun K hK => ?_
  rw [if_pos hw]
  unfold Oper.wp execOp
  simp only [ho, hty, resolve, invoke, builtin, Sem.run_bind, Sem.run_pure, Result.andThen_ok, List.map_toArray, List.map_cons, List.map_nil, hs, hx, hr]
  exact hK _ _ h
theorem own_empty (w : World) (base : Nat) (h : base ≤ w.heap.size) : Own (w.alloc (.cells #[] 5)) base (.slice (some ⟨w.heap.size, 0, none⟩) 0 0) [] :=
  ⟨fun _ h => by simp at h, rfl, .inr ⟨w.heap.size, 0, #[], rfl, h, heap_alloc_new w _, Nat.le_refl _, by simp [maxLen], rfl, rfl⟩⟩
theorem seesL3 {w : World} {a b c : Value} {xs ys zs : List Int} (ha : Sees w a xs) (hb : Sees w b ys) (hc : Sees w c zs) :
    SeesL (w.alloc (.cells #[a, b, c] 22)) (.slice (some ⟨w.heap.size, 0, none⟩) 3 3) [xs, ys, zs] := by
  have hB : Below w.heap.size w (w.alloc (.cells #[a, b, c] 22)) := (Below.refl _ _).alloc (Nat.le_refl _) _
  refine .inr ⟨w.heap.size, 0, 3, rfl, by simp, fun i hi => ?_⟩
  have hi3 : i = 0 ∨ i = 1 ∨ i = 2 := by simp at hi; omega
  rcases hi3 with rfl | rfl | rfl
  · exact ⟨a, by rw [cell_of_row _ _ _ _ _ _ (heap_alloc_new w _)]; rfl, ha.below hB⟩
  · exact ⟨b, by rw [cell_of_row _ _ _ _ _ _ (heap_alloc_new w _)]; rfl, hb.below hB⟩
  · exact ⟨c, by rw [cell_of_row _ _ _ _ _ _ (heap_alloc_new w _)]; rfl, hc.below hB⟩
set_option maxRecDepth 100000 in
set_option maxHeartbeats 4000000 in
theorem walk_great (va vb vc : Value) (xs ys zs : List Int) (w : World) (hG : Glob w) (ha : Sees w va xs) (hb : Sees w vb ys) (hc : Sees w vc zs) (h : 1000 < xs.length ∨ 1000 < ys.length ∨ 1000 < zs.length) :
    Calls Tryd.prog 6 #[va, vb, vc] w fun e w' => e = .returned (.bool true) ∧ Below w.heap.size w w' := by
  obtain ⟨x1, c1, rfl, l1⟩ := ha.form
  obtain ⟨x2, c2, rfl, l2⟩ := hb.form
  obtain ⟨x3, c3, rfl, l3⟩ := hc.form
  have AL := Lib.hid (alive w hG)
  clear ha hb hc hG
  have i1 : (xs.length : Int) ≤ 9223372036854775807 := by omega
  by_cases t1 : (1000 : Int) < xs.length
  · go_enter Tryd.func6, Tryd.ntmps6
    go_wp2_with fail
    refine AL.out.mono ?_
    rintro e w1 ⟨rfl, hb⟩
    have HB := Lib.hid hb
    clear hb
    go_wp2_with fail
    go_ret
    exact ⟨rfl, HB.out⟩
  · by_cases t2 : (1000 : Int) < ys.length
    · go_enter Tryd.func6, Tryd.ntmps6
      go_wp2_with fail
      refine AL.out.mono ?_
      rintro e w1 ⟨rfl, hb⟩
      have HB := Lib.hid hb
      clear hb
      go_wp2_with fail
      go_ret
      exact ⟨rfl, HB.out⟩
    · have t3 : (1000 : Int) < zs.length := by omega
      go_enter Tryd.func6, Tryd.ntmps6
      go_wp2_with fail
      refine AL.out.mono ?_
      rintro e w1 ⟨rfl, hb⟩
      have HB := Lib.hid hb
      clear hb
      go_wp2_with fail
      go_ret
      exact ⟨rfl, HB.out⟩
set_option maxRecDepth 100000 in
set_option maxHeartbeats 8000000 in
theorem walk (va vb vc : Value) (xs ys zs : List Int) (w : World) (hG : Glob w) (ha : Sees w va xs) (hb : Sees w vb ys) (hc : Sees w vc zs) (h1 : xs.length ≤ 1000) (h2 : ys.length ≤ 1000) (h3 : zs.length ≤ 1000) :
    Calls Tryd.prog 6 #[va, vb, vc] w fun e w' => e = .returned (.bool true) ∧ Below w.heap.size w w' := by
  obtain ⟨x1, c1, rfl, l1⟩ := id ha.form
  obtain ⟨x2, c2, rfl, l2⟩ := id hb.form
  obtain ⟨x3, c3, rfl, l3⟩ := id hc.form
  have h2w : 2 ≤ w.heap.size := by have := hG.lt; omega
  -- the text as a whole
  have hB0 : Below w.heap.size w (w.alloc (.cells #[] 5)) := (Below.refl _ _).alloc (Nat.le_refl _) _
  obtain ⟨p1, k1, w1, r1, o1, g1, b1⟩ := app (own_empty w w.heap.size (Nat.le_refl _)) (ha.below hB0) (by simp; omega) (by simp)
  have B1 : Below w.heap.size w w1 := hB0.trans b1
  obtain ⟨p2, k2, w2, r2, o2, g2, b2⟩ := app o1 (hb.below (B1.mono (Nat.le_refl _))) (by simp; omega) B1.size
  have B2 : Below w.heap.size w w2 := B1.trans b2
  obtain ⟨p3, k3, w3, r3, o3, g3, b3⟩ := app o2 (hc.below B2) (by simp; omega) B2.size
  have B3 : Below w.heap.size w w3 := B2.trans b3
  simp only [List.length_nil, Nat.zero_add, List.nil_append, List.length_append] at r1 r2 r3 o3
  obtain ⟨ALL, hALL⟩ : ∃ A, A = sha (xs ++ ys ++ zs) := ⟨_, rfl⟩
  have hbt : Byt (xs ++ ys ++ zs) := (ha.1.append hb.1).append hc.1
  have EQ := Lib.hid (eq27_same ALL (by rw [hALL]; exact sha_byt _) (by rw [hALL]; exact sha_len _ hbt))
  have EQ0 := Lib.hid (eq27_same (sha []) (sha_byt _) (sha_len _ (fun _ h => by simp at h)))
  have SM : Hid (∀ W v, Glob W → Sees W v (xs ++ ys ++ zs) → Calls Tryd.prog 14 #[v] W fun e w' => e = .returned (.agg (bcells ALL)) ∧ Below W.heap.size W w') := fun W v hg hv => by
    have h := sum1 v _ W hv (by simp; omega) hg; rw [← hALL] at h; exact h
  have BM : Hid (∀ W v, Glob W → SeesL W v [xs, ys, zs] → Calls Tryd.prog 15 #[v] W fun e w' => e = .returned (.agg (bcells ALL)) ∧ Below W.heap.size W w') := fun W v hg hv => by
    have h := both v _ W hv (by simp; omega) hg
    rw [show [xs, ys, zs].flatten = xs ++ ys ++ zs by simp, ← hALL] at h; exact h
  have BM2 : Hid (∀ W v, Glob W → SeesL W v [xs, [], ys ++ zs] → Calls Tryd.prog 15 #[v] W fun e w' => e = .returned (.agg (bcells ALL)) ∧ Below W.heap.size W w') := fun W v hg hv => by
    have h := both v _ W hv (by simp; omega) hg
    rw [show [xs, [], ys ++ zs].flatten = xs ++ ys ++ zs by simp, ← hALL] at h; exact h
  have t1 : ¬ (1000 : Int) < xs.length := by omega
  have t2 : ¬ (1000 : Int) < ys.length := by omega
  have t3 : ¬ (1000 : Int) < zs.length := by omega
  have R1 := Lib.hid r1
  have R2 := Lib.hid r2
  have R3 := Lib.hid r3
  have O3 := Lib.hid o3.sees
  have HB3 := Lib.hid B3
  have HA := Lib.hid ha
  have HBB := Lib.hid hb
  have HC := Lib.hid hc
  have HGL := Lib.hid hG
  have H2W := Lib.hid h2w
  have HL := Lib.hid (And.intro h1 (And.intro h2 h3))
  clear hALL hbt r1 r2 r3 o1 o2 o3 g1 g2 g3 b1 b2 b3 B1 B2 B3 hB0 ha hb hc hG h2w h1 h2 h3
  go_enter Tryd.func6, Tryd.ntmps6
  go_wp2_with (first
    | (at_builtin; refine wpList_app rfl (.tmp 22) (.tmp 23) rfl rfl rfl rfl R1.out ?_)
    | (at_builtin; refine wpList_app rfl (.tmp 24) (.tmp 25) rfl rfl rfl rfl R2.out ?_)
    | (at_builtin; refine wpList_app rfl (.tmp 26) (.tmp 27) rfl rfl rfl rfl R3.out ?_))
  refine (alive w3 (HGL.out.below HB3.out H2W.out)).mono ?_
  rintro e w4 ⟨rfl, hb⟩
  have HB4 : Hid (Below w.heap.size w w4) := HB3.out.trans (hb.mono HB3.out.size)
  have O4 := Lib.hid (O3.out.below hb)
  clear hb
  go_wp2_with fail
  have q5 : Below w4.heap.size w4 (w4.alloc (.cells #[.slice x1 xs.length c1, .slice x2 ys.length c2, .slice x3 zs.length c3] 22)) := (Below.refl _ _).alloc (Nat.le_refl _) _
  have b5 := HB4.out.trans (q5.mono HB4.out.size)
  refine (BM.out _ _ (HGL.out.below b5 H2W.out) (seesL3 (HA.out.below HB4.out) (HBB.out.below HB4.out) (HC.out.below HB4.out))).mono ?_
  rintro e w5 ⟨rfl, hb⟩
  have HB5 : Hid (Below w.heap.size w w5) := b5.trans (hb.mono b5.size)
  have O5 := Lib.hid ((O4.out.below q5).below hb)
  clear hb q5 b5
  go_wp2_with fail
  refine (SM.out _ _ (HGL.out.below HB5.out H2W.out) O5.out).mono ?_
  rintro e w6 ⟨rfl, hb⟩
  have HB6 : Hid (Below w.heap.size w w6) := HB5.out.trans (hb.mono HB5.out.size)
  have O6 := Lib.hid (O5.out.below hb)
  clear hb
  -- the second and the third, one behind the other
  have hB0 : Below w6.heap.size w6 (w6.alloc (.cells #[] 5)) := (Below.refl _ _).alloc (Nat.le_refl _) _
  obtain ⟨n1, m1, v1, r1, o1, _, b1⟩ := app (own_empty w6 w6.heap.size (Nat.le_refl _)) ((HBB.out.below HB6.out).below hB0) (by have := HL.out; simp; omega) (by simp)
  have B1 : Below w6.heap.size w6 v1 := hB0.trans b1
  obtain ⟨n2, m2, v2, r2, o2, _, b2⟩ := app o1 ((HC.out.below HB6.out).below B1) (by have := HL.out; simp; omega) B1.size
  have B2 : Below w6.heap.size w6 v2 := B1.trans b2
  simp only [List.length_nil, Nat.zero_add, List.nil_append] at r1 r2 o2
  have Q1 := Lib.hid r1
  have Q2 := Lib.hid r2
  have OO := Lib.hid o2.sees
  have BV := Lib.hid B2
  have eq := EQ.out
  clear r1 r2 o1 o2 b1 b2 B1 B2 hB0
  go_wp2_with (first
    | (at_builtin; refine wpList_app_want (by rfl) (.tmp 42) (.tmp 43) rfl rfl rfl rfl Q1.out ?_)
    | (at_builtin; refine wpList_app_want (by rfl) (.tmp 44) (.tmp 45) rfl rfl rfl rfl Q2.out ?_))
  have q7 : Below v2.heap.size v2 (v2.alloc (.cells #[.slice x1 xs.length c1, .slice none 0 0, .slice n2 (ys.length + zs.length) m2] 22)) := (Below.refl _ _).alloc (Nat.le_refl _) _
  have bV : Below w.heap.size w v2 := HB6.out.trans (BV.out.mono HB6.out.size)
  have b7 := bV.trans (q7.mono bV.size)
  refine (BM2.out _ _ (HGL.out.below b7 H2W.out) (seesL3 (HA.out.below bV) (sees_nil _) OO.out)).mono ?_
  rintro e w8 ⟨rfl, hb⟩
  have HB8 : Hid (Below w.heap.size w w8) := b7.trans (hb.mono b7.size)
  have O8 := Lib.hid (((O6.out.below BV.out).below q7).below hb)
  clear hb q7 b7 bV
  go_wp2_with fail
  refine (SM.out _ _ (HGL.out.below HB8.out H2W.out) O8.out).mono ?_
  rintro e w9 ⟨rfl, hb⟩
  have HB9 : Hid (Below w.heap.size w w9) := HB8.out.trans (hb.mono HB8.out.size)
  clear hb
  go_wp2_with fail
  refine (both (.slice none 0 0) [] w9 (.inl ⟨_, _, rfl, rfl⟩) (by simp) (HGL.out.below HB9.out H2W.out)).mono ?_
  rintro e w10 ⟨rfl, hb⟩
  have HB10 : Hid (Below w.heap.size w w10) := HB9.out.trans (hb.mono HB9.out.size)
  have hfl : ([] : List (List Int)).flatten = [] := rfl
  rw [hfl]
  clear hb hfl
  have eq0 := EQ0.out
  go_wp2_with fail
  refine (sum1 (.slice none 0 0) [] w10 (sees_nil _) (by simp) (HGL.out.below HB10.out H2W.out)).mono ?_
  rintro e w11 ⟨rfl, hb⟩
  have HB11 : Hid (Below w.heap.size w w11) := HB10.out.trans (hb.mono HB10.out.size)
  clear hb
  go_wp2_with fail
  go_ret
  exact ⟨rfl, HB11.out⟩
theorem walkI (va vb vc : Value) (xs ys zs : List Int) (w : World) (hG : Glob w) (ha : Sees w va xs) (hb : Sees w vb ys) (hc : Sees w vc zs) :
    Calls Tryd.prog 6 #[va, vb, vc] w fun e w' => e = .returned (.bool true) ∧ Below w.heap.size w w' := by
  by_cases h : 1000 < xs.length ∨ 1000 < ys.length ∨ 1000 < zs.length
  · exact walk_great va vb vc xs ys zs w hG ha hb hc h
  · exact walk va vb vc xs ys zs w hG ha hb hc (by omega) (by omega) (by omega)

set_option maxRecDepth 100000 in
theorem lifted (os : Os) (started : os.Started) (H : Type) (enc : TypeId × Value → H) :
    ReturnsInHanded {} Tryd.checked os 6 .any (fun w args => (Rows.shaBothSpec.pre enc Tryd.prog Tryd.f6 [] false w args ∧ laidMetH Tryd.prog laid2 w) ∧ sizedMet enc Tryd.prog Tryd.f6 (OpenSpec.ofChange Rows.shaBothSpec) false w args)
      (Rows.shaBothSpec.post enc Tryd.prog Tryd.f6 false true false false) := by
  refine returnsInHanded_of_change_and (C := Tryd.checked) (X := fun w _ => laidMetH Tryd.prog laid2 w) (fun _ _ _ hh h => h.of_heap hh) own started (by kernel_rfl) Tryd.func6
    (ChangeSpec.witness_shaped (enc := enc) (C := Tryd.checked) (os := os) (X := fun w _ => laidMetH Tryd.prog laid2 w) false (World.doorLaid Tryd.prog 400 os) #[.slice none 0 0, .slice none 0 0, .slice none 0 0] 8 rfl (World.shaped_of_RefB (by kernel_rfl) (by kernel_rfl)) (by kernel_rfl) (by kernel_rfl) (by kernel_rfl) (door_met os _)) ?_
  intro W base args ds gs before hval0 hW _ _ hL _
  have hval : ∀ (j : Nat) t v, Tryd.f6.params[j]? = some t → args[j]? = some v → Value.okWide Tryd.prog W .any base t v := hval0
  have hW' := hW
  obtain ⟨p, q, hA0, hV, rfl, hfz, hnd⟩ := hW
  have hA : DataW.TrodAll enc Tryd.prog W 0 (fun _ => true) true Tryd.f6.params.toList args.toList ds p := hA0
  rw [Tryd.params6] at hA hval
  obtain ⟨v0, vs0, d0, ds0, p0, q0, hargs, rfl, rfl, h0, r0⟩ := trodAll_cons hA
  obtain ⟨v1, vs1, d1, ds1, p1, q1, rfl, rfl, rfl, h1, r1⟩ := trodAll_cons r0
  obtain ⟨v2, vs2, d2, ds2, p2, q2, rfl, rfl, rfl, h2, r2⟩ := trodAll_cons r1
  obtain ⟨rfl, rfl, rfl⟩ := trodAll_nil r2
  obtain rfl : args = #[v0, v1, v2] := by cases args; simp_all
  obtain ⟨rfl, rfl⟩ := trodVars_none hV
  obtain ⟨x0, s0⟩ := open_sees (hval 0 22 v0 rfl rfl) h0
  obtain ⟨x1, s1⟩ := open_sees (hval 1 22 v1 rfl rfl) h1
  obtain ⟨x2, s2⟩ := open_sees (hval 2 22 v2 rfl rfl) h2
  refine (walkI v0 v1 v2 x0 x1 x2 W (of_laid hL) s0 s1 s2).mono fun e W' ⟨he, hb⟩ => ?_
  subst he
  exact ⟨_, rfl, law_post hW' rfl rfl rfl (by kernel_rfl) hb⟩
/-- The row's statement. -/
theorem row_holds : Rows.ShaBothSaid :=
  OpenClaim.holds_of_wide 6 Tryd.f6 rfl rfl rfl rfl rfl rfl rfl ⟨rfl, rfl, rfl, rfl, rfl⟩ rfl rfl rfl rfl rfl (by kernel_rfl) Tryd.func6 (by kernel_rfl)
    (of_decide_eq_true (by kernel_rfl)) (by unfold Func.isWrapper; first | (rw [if_pos (by decide +kernel)]; kernel_rfl) | (rw [if_neg (by decide +kernel)]; exact ⟨rfl, rfl⟩))
    (fun os started H enc _ => lifted os started H enc)
/-- The tied card. -/
theorem proved : Rows.ShaBothCardSaid :=
  Claim7.holds_tied_plain_at .later [] [.data, .data] true (true, "c1a692658ed27d6b705437531a4023b4f004fc9067d80523147904b9ccf5c916") false
    row_holds (fun _ h => by cases h) (by kernel_rfl) (fun _ h => by cases h) shaBoth_row_tie rfl ⟨rfl, rfl⟩ (by kernel_rfl) rfl
    (fun f fn hf hfn => by
      obtain rfl : f = 6 := Option.some.inj ((show Tryd.prog.funcNamed "casemate/casematelaw02.ShaBoth" = some 6 by kernel_rfl).symm.trans hf) |>.symm
      obtain rfl : fn = Tryd.f6 := (Option.some.inj (Tryd.func6.symm.trans hfn)).symm
      exact ⟨by kernel_rfl, fun j t ht => by
        rw [Tryd.params6] at ht
        have hm : t ∈ [22, 22, 22] := by simpa using Array.mem_of_getElem? ht
        have hall : ([22, 22, 22].all fun u => !Tryd.prog.wantsStandIn u) = true := by kernel_rfl
        exact (show Tryd.prog.wantsStandIn t = false by simpa using List.all_eq_true.1 hall t hm)⟩)
    (by kernel_rfl)
#print axioms proved
end Go.Proofs.YtmkaagiabafooaaDoor.shaBoth
