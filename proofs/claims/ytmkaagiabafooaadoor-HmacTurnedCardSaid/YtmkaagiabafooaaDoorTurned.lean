/-
  For all keys, texts, places and bytes the law HmacTurned of package casematelaw03 returns true, and what came in reads afterwards as before: a mark is right; with one byte turned it is not, nor is a beginning of it. Condition: the two tables of package sha read, when the call begins, as their declarations lay them (the card ties that to the program's text).
-/
import Derived.Test.YtmkaagiabafooaaDoorAlivc
import Derived.Test.YtmkaagiabafooaaDoorLaid
namespace Go.Proofs.YtmkaagiabafooaaDoor.hmacTurned
open Go.ChangeShapes Go.WideShapes Go.ChangeAt Go.RowKit
set_option maxRecDepth 100000 in
set_option maxHeartbeats 4000000 in
theorem walk_great (va vb : Value) (k b : List Int) (n z : Int) (w : World) (hG : Glob w) (ha : Sees w va k) (hb : Sees w vb b) (h : 300 < k.length ∨ 1000 < b.length ∨ n < 0 ∨ 31 < n ∨ z = 0) :
    Calls Tryd.prog 11 #[va, vb, .int .i64 n, .int .u8 z] w fun e w' => e = .returned (.bool true) ∧ Below w.heap.size w w' := by
  obtain ⟨x1, c1, rfl, l1⟩ := ha.form
  obtain ⟨x2, c2, rfl, l2⟩ := hb.form
  have AL := Lib.hid (alivc w hG)
  clear ha hb hG
  by_cases t0 : (300 : Int) < k.length
  · skip
    go_enter Tryd.func11, Tryd.ntmps11
    go_wp2_with fail
    refine AL.out.mono ?_
    rintro e w1 ⟨rfl, hb⟩
    have HB := Lib.hid hb
    clear hb
    go_wp2_with fail
    go_ret
    exact ⟨rfl, HB.out⟩
  · skip
    by_cases t1 : (1000 : Int) < b.length
    · skip
      go_enter Tryd.func11, Tryd.ntmps11
      go_wp2_with fail
      refine AL.out.mono ?_
      rintro e w1 ⟨rfl, hb⟩
      have HB := Lib.hid hb
      clear hb
      go_wp2_with fail
      go_ret
      exact ⟨rfl, HB.out⟩
    · skip
      by_cases t2 : n < 0
      · skip
        go_enter Tryd.func11, Tryd.ntmps11
        go_wp2_with fail
        refine AL.out.mono ?_
        rintro e w1 ⟨rfl, hb⟩
        have HB := Lib.hid hb
        clear hb
        go_wp2_with fail
        go_ret
        exact ⟨rfl, HB.out⟩
      · skip
        by_cases t3 : 31 < n
        · skip
          go_enter Tryd.func11, Tryd.ntmps11
          go_wp2_with fail
          refine AL.out.mono ?_
          rintro e w1 ⟨rfl, hb⟩
          have HB := Lib.hid hb
          clear hb
          go_wp2_with fail
          go_ret
          exact ⟨rfl, HB.out⟩
        · skip
          have t4 : z = 0 := by omega
          go_enter Tryd.func11, Tryd.ntmps11
          go_wp2_with fail
          refine AL.out.mono ?_
          rintro e w1 ⟨rfl, hb⟩
          have HB := Lib.hid hb
          clear hb
          go_wp2_with fail
          go_ret
          exact ⟨rfl, HB.out⟩
theorem arr32_to (g n : Nat) (hn : n ≤ 32) (W : World) : (Instr.sliceAt 27 (.pointer (some ⟨g, 0, none⟩)) none (some (.int .i64 n)) none).run Tryd.prog W = .ok (.slice (some ⟨g, 0, none⟩) n 32) W := by
  rw [run_sliceAt_array_h W 27 ⟨g, 0, none⟩ und27 .i64 n (by omega) (by rw [len27]; omega), size27]
  simp [Result.andThen, slicedAt, len27, addr_add]
theorem sees_take {w : World} {g : Nat} {xs : List Int} (h : Row27 w g xs) (hl : xs.length = 32) (hb : Byt xs) (n : Nat) (hn : n ≤ 32) : Sees w (.slice (some ⟨g, 0, none⟩) n 32) (xs.take n) := by
  have hlt : (xs.take n).length = n := by rw [List.length_take]; omega
  refine ⟨hb.take n, ?_⟩
  by_cases h0 : n = 0
  · subst h0
    exact .inr (.inl ⟨_, _, rfl, by simp, by simp [maxLen]⟩)
  · refine .inr (.inr ⟨_, _, _, by rw [hlt], fun e => h0 (by rw [← hlt, e]; rfl), by omega, by decide, fun i hi => ?_⟩)
    rw [hlt] at hi
    rw [Nat.zero_add, h.cell i (by omega)]
    simp [nth, List.getD, List.getElem?_take_of_lt hi]
theorem xor_moves (y z : Int) (hy : 0 ≤ y ∧ y ≤ 255) (hz : 0 < z ∧ z ≤ 255) : bits .xor .u8 y z ≠ y := by
  intro h
  obtain ⟨a, rfl⟩ := Int.eq_ofNat_of_zero_le hy.1
  obtain ⟨b, rfl⟩ := Int.eq_ofNat_of_zero_le (show 0 ≤ z by omega)
  rw [bits_xor8] at h
  have h1 : (BitVec.ofNat 8 a ^^^ BitVec.ofNat 8 b) = BitVec.ofNat 8 a := by
    apply BitVec.eq_of_toNat_eq
    rw [BitVec.toNat_ofNat a]
    omega
  have h2 : BitVec.ofNat 8 b = 0#8 := by
    have : BitVec.ofNat 8 a ^^^ (BitVec.ofNat 8 a ^^^ BitVec.ofNat 8 b) = 0#8 := by rw [h1, BitVec.xor_self]
    rwa [← BitVec.xor_assoc, BitVec.xor_self, BitVec.zero_xor] at this
  have h3 := congrArg BitVec.toNat h2
  rw [BitVec.toNat_ofNat] at h3
  simp at h3
  omega
theorem turned_ne (A : List Int) (i : Nat) (z : Int) (hi : i < A.length) (hb : Byt A) (hz : 0 < z ∧ z ≤ 255) : decide (A = A.set i (bits .xor .u8 (nth A i) z)) = false := by
  apply decide_eq_false
  intro e
  have h1 : nth A i = nth (A.set i (bits .xor .u8 (nth A i) z)) i := by rw [← e]
  have h2 : nth (A.set i (bits .xor .u8 (nth A i) z)) i = bits .xor .u8 (nth A i) z := by simp [nth, List.getD, hi]
  rw [h2] at h1
  exact xor_moves _ z (hb.nth i) hz h1.symm
theorem take_ne (A : List Int) (i : Nat) (hi : i < A.length) : decide (A = A.take i) = false := by
  apply decide_eq_false
  intro e
  have := congrArg List.length e
  rw [List.length_take] at this
  omega
set_option maxRecDepth 100000 in
set_option maxHeartbeats 8000000 in
theorem walk (va vb : Value) (k b : List Int) (i : Nat) (z : Int) (w : World) (hG : Glob w) (ha : Sees w va k) (hb : Sees w vb b) (h1 : k.length ≤ 300) (h2 : b.length ≤ 1000) (hi : i ≤ 31) (hz : 0 < z ∧ z ≤ 255) :
    Calls Tryd.prog 11 #[va, vb, .int .i64 i, .int .u8 z] w fun e w' => e = .returned (.bool true) ∧ Below w.heap.size w w' := by
  obtain ⟨x1, c1, rfl, l1⟩ := id ha.form
  obtain ⟨x2, c2, rfl, l2⟩ := id hb.form
  have z27 := zv27
  obtain ⟨Z27, hZ27⟩ : ∃ Z, Z = bcells (List.replicate 32 0) := ⟨_, rfl⟩
  rw [← hZ27] at z27
  have h2w : 2 ≤ w.heap.size := by have := hG.lt; omega
  have MK := Lib.hid (macc _ _ _ _ w ha hb (by omega) (by omega) hG)
  have RT : Hid (∀ W vm m, Glob W → Sees W (.slice x1 k.length c1) k → Sees W (.slice x2 b.length c2) b → Sees W vm m → Calls Tryd.prog 25 #[.slice x1 k.length c1, .slice x2 b.length c2, vm] W fun e w' => e = .returned (.bool (decide (mac k b = m))) ∧ Below W.heap.size W w') := fun W vm m hg h3 h4 h5 => right _ _ _ _ _ _ W h3 h4 h5 (by omega) (by omega) hg
  have lA := mac_len k b ha.1
  have bA := mac_byt k b
  generalize mac k b = A at MK RT lA bA
  have IA := Lib.hid (show (Tryd.prog.info? 27).map (·.size) = some (bcells A).size by rw [i27, bsize, lA])
  have ZA := Lib.hid (show Z27.size = (bcells A).size by rw [hZ27, bsize, bsize, lA, List.length_replicate])
  have OA := Lib.hid (bone A)
  have hx := bA.nth i
  obtain ⟨y, hy⟩ : ∃ y, y = nth A i := ⟨_, rfl⟩
  have NE := Lib.hid (turned_ne A i z (by omega) bA hz)
  have TE := Lib.hid (take_ne A i (by omega))
  have TB : Hid (Byt (A.set i (bits .xor .u8 y z))) := by
    show Byt _
    intro v hv
    rcases List.mem_or_eq_of_mem_set hv with h | h
    · exact bA v h
    · rw [h, hy]; exact xorb_bd z _ ⟨by omega, hz.2⟩ hx
  rw [← hy] at hx NE
  have LT0 : Hid ((A.set i (bits .xor .u8 y z)).length = 32) := by show _ = _; rw [List.length_set, lA]
  have HY := Lib.hid hy
  have LA := Lib.hid lA
  have BA := Lib.hid bA
  have ST := Lib.hid (arr32_to · i (by omega))
  have HA := Lib.hid ha
  have HBB := Lib.hid hb
  have HGL := Lib.hid hG
  have H2 := Lib.hid h2w
  have t1 : ¬ (300 : Int) < k.length := by omega
  have t2 : ¬ (1000 : Int) < b.length := by omega
  have t3 : ¬ ((i : Int) < 0) := by omega
  have t4 : ¬ (31 < (i : Int)) := by omega
  have t5 : ¬ z = 0 := by omega
  have hi32 : i < 32 := by omega
  obtain ⟨hz0, hz1⟩ := hz
  obtain ⟨hx0, hx1⟩ := hx
  clear ha hb hG h2w h1 h2 hZ27 lA bA hy
  go_enter Tryd.func11, Tryd.ntmps11
  go_wp2_with fail
  refine MK.out.mono ?_
  rintro e w1 ⟨rfl, hb⟩
  have rA : Row27 ((w1.alloc (.cells Z27 27)).setRow w1.heap.size (bcells A)) w1.heap.size A := setRow_heap _ _ _ _ _ _ (heap_alloc_new w1 _)
  have b3 : Below w.heap.size w ((w1.alloc (.cells Z27 27)).setRow w1.heap.size (bcells A)) := (hb.alloc hb.size _).trans (below_row _ _ hb.size)
  clear hb
  go_wp2_with (first
    | (refine wpList_store_row rfl 27 (.tmp 9) (.tmp 34) rfl w1.heap.size (bcells A) rfl rfl 27 Z27 (heap_alloc_new w1 _) IA.out ZA.out OA.out ?_
       generalize ((w1.alloc (.cells Z27 27)).setRow w1.heap.size (bcells A)) = w3 at rA b3 ⊢)
    | (refine wpList_load_row rfl 27 (.tmp 9) rfl w1.heap.size rfl 27 (bcells A) (0, 0) _ rA Tryd.underlying27 rfl IA.out ?_)
    | (refine wpList_store_row rfl 27 (.tmp 10) (.tmp 35) rfl w3.heap.size (bcells A) rfl rfl 27 Z27 (heap_alloc_new w3 _) IA.out ZA.out OA.out ?_
       have rB : Row27 ((w3.alloc (.cells Z27 27)).setRow w3.heap.size (bcells A)) w3.heap.size A := setRow_heap _ _ _ _ _ _ (heap_alloc_new w3 _)
       have b4 : Below w3.heap.size w3 ((w3.alloc (.cells Z27 27)).setRow w3.heap.size (bcells A)) := ((Below.refl _ _).alloc (Nat.le_refl _) _).trans (below_row _ _ (Nat.le_refl _))
       have ce := rB.cell i (by rw [LA.out]; exact hi32)
       rw [← HY.out] at ce
       have fe := frozen_of_row _ w3.heap.size i _ 27 rB
       generalize ((w3.alloc (.cells Z27 27)).setRow w3.heap.size (bcells A)) = w4 at rB b4 ce fe ⊢))
  have rT : Row27 (w4.setCell ⟨w3.heap.size, i, none⟩ (.int .u8 (bits .xor .u8 y z))) w3.heap.size (A.set i (bits .xor .u8 y z)) := by
    unfold Row27
    rw [heap_setCell_same _ _ _ _ _ _ rB, bset]
  have b5 : Below w3.heap.size w3 (w4.setCell ⟨w3.heap.size, i, none⟩ (.int .u8 (bits .xor .u8 y z))) := b4.setCell (Nat.le_refl _) _
  have RA := Lib.hid (rA.below b5)
  have RB := Lib.hid rT
  have B5 : Hid (Below w.heap.size w (w4.setCell ⟨w3.heap.size, i, none⟩ (.int .u8 (bits .xor .u8 y z)))) := b3.trans (b5.mono b3.size)
  clear rA rB b3 b4 ce fe rT b5
  generalize (w4.setCell ⟨w3.heap.size, i, none⟩ (.int .u8 (bits .xor .u8 y z))) = w5 at RA RB B5 ⊢
  generalize A.set i (bits .xor .u8 y z) = T at RB NE TB LT0
  have LT := LT0
  refine (alivc w5 (HGL.out.below B5.out H2.out)).mono ?_
  rintro e w6 ⟨rfl, hb⟩
  have B6 : Hid (Below w.heap.size w w6) := B5.out.trans (hb.mono B5.out.size)
  have RA6 := Lib.hid (RA.out.below hb)
  have RB6 := Lib.hid (RB.out.below hb)
  clear hb RA RB B5
  have aa := arr32_all
  go_wp2_with fail
  refine (RT.out w6 _ _ (HGL.out.below B6.out H2.out) (HA.out.below B6.out) (HBB.out.below B6.out) (RA6.out.sees LA.out BA.out)).mono ?_
  rintro e w7 ⟨rfl, hb⟩
  have B7 : Hid (Below w.heap.size w w7) := B6.out.trans (hb.mono B6.out.size)
  have RA7 := Lib.hid (RA6.out.below hb)
  have RB7 := Lib.hid (RB6.out.below hb)
  clear hb RA6 RB6 B6
  rw [decide_eq_true (rfl : A = A)]
  go_wp2_with fail
  refine (RT.out w7 _ _ (HGL.out.below B7.out H2.out) (HA.out.below B7.out) (HBB.out.below B7.out) (RB7.out.sees LT.out TB.out)).mono ?_
  rintro e w8 ⟨rfl, hb⟩
  have B8 : Hid (Below w.heap.size w w8) := B7.out.trans (hb.mono B7.out.size)
  have RA8 := Lib.hid (RA7.out.below hb)
  clear hb RA7 RB7 B7
  rw [NE.out]
  have st := ST.out
  go_wp2_with fail
  refine (RT.out w8 _ _ (HGL.out.below B8.out H2.out) (HA.out.below B8.out) (HBB.out.below B8.out) (sees_take RA8.out LA.out BA.out i (Nat.le_of_lt hi32))).mono ?_
  rintro e w9 ⟨rfl, hb⟩
  have B9 : Hid (Below w.heap.size w w9) := B8.out.trans (hb.mono B8.out.size)
  clear hb
  rw [TE.out]
  go_wp2_with fail
  go_ret
  exact ⟨rfl, B9.out⟩
theorem walkI (va vb : Value) (k b : List Int) (n z : Int) (w : World) (hG : Glob w) (ha : Sees w va k) (hb : Sees w vb b) (hz : 0 ≤ z ∧ z ≤ 255) :
    Calls Tryd.prog 11 #[va, vb, .int .i64 n, .int .u8 z] w fun e w' => e = .returned (.bool true) ∧ Below w.heap.size w w' := by
  by_cases h : 300 < k.length ∨ 1000 < b.length ∨ n < 0 ∨ 31 < n ∨ z = 0
  · exact walk_great va vb k b n z w hG ha hb h
  · obtain ⟨i, rfl⟩ := Int.eq_ofNat_of_zero_le (show 0 ≤ n by omega)
    exact walk va vb k b i z w hG ha hb (by omega) (by omega) (by omega) ⟨by omega, hz.2⟩

set_option maxRecDepth 100000 in
theorem lifted (os : Os) (started : os.Started) (H : Type) (enc : TypeId × Value → H) :
    ReturnsInHanded {} Tryd.checked os 11 .any (fun w args => (Rows.hmacTurnedSpec.pre enc Tryd.prog Tryd.f11 [] false w args ∧ laidMetH Tryd.prog laid2 w) ∧ sizedMet enc Tryd.prog Tryd.f11 (OpenSpec.ofChange Rows.hmacTurnedSpec) false w args)
      (Rows.hmacTurnedSpec.post enc Tryd.prog Tryd.f11 false true false false) := by
  refine returnsInHanded_of_change_and (C := Tryd.checked) (X := fun w _ => laidMetH Tryd.prog laid2 w) (fun _ _ _ hh h => h.of_heap hh) own started (by kernel_rfl) Tryd.func11
    (ChangeSpec.witness_shaped (enc := enc) (C := Tryd.checked) (os := os) (X := fun w _ => laidMetH Tryd.prog laid2 w) false (World.doorLaid Tryd.prog 400 os) #[.slice none 0 0, .slice none 0 0, .int .i64 0, .int .u8 0] 8 rfl (World.shaped_of_RefB (by kernel_rfl) (by kernel_rfl)) (by kernel_rfl) (by kernel_rfl) (by kernel_rfl) (door_met os _)) ?_
  intro W base args ds gs before hval0 hW _ _ hL _
  have hval : ∀ (j : Nat) t v, Tryd.f11.params[j]? = some t → args[j]? = some v → Value.okWide Tryd.prog W .any base t v := hval0
  have hW' := hW
  obtain ⟨p, q, hA0, hV, rfl, hfz, hnd⟩ := hW
  have hA : DataW.TrodAll enc Tryd.prog W 0 (fun _ => true) true Tryd.f11.params.toList args.toList ds p := hA0
  rw [Tryd.params11] at hA hval
  obtain ⟨v0, vs0, d0, ds0, p0, q0, hargs, rfl, rfl, h0, r0⟩ := trodAll_cons hA
  obtain ⟨v1, vs1, d1, ds1, p1, q1, rfl, rfl, rfl, h1, r1⟩ := trodAll_cons r0
  obtain ⟨v2, vs2, d2, ds2, p2, q2, rfl, rfl, rfl, h2, r2⟩ := trodAll_cons r1
  obtain ⟨v3, vs3, d3, ds3, p3, q3, rfl, rfl, rfl, h3, r3⟩ := trodAll_cons r2
  obtain ⟨rfl, rfl, rfl⟩ := trodAll_nil r3
  obtain rfl : args = #[v0, v1, v2, v3] := by cases args; simp_all
  obtain ⟨rfl, rfl⟩ := trodVars_none hV
  obtain ⟨x0, s0⟩ := open_sees (hval 0 22 v0 rfl rfl) h0
  obtain ⟨x1, s1⟩ := open_sees (hval 1 22 v1 rfl rfl) h1
  obtain ⟨a2, rfl, rfl, rfl, w2⟩ := open_int Tryd.underlying3 (hval 2 3 v2 rfl rfl) h2
  have b2 := bounds_i64 w2
  obtain ⟨a3, rfl, rfl, rfl, w3⟩ := open_int Tryd.underlying5 (hval 3 5 v3 rfl rfl) h3
  have b3 := bounds_u8 w3
  refine (walkI v0 v1 x0 x1 a2 a3 W (of_laid hL) s0 s1 b3).mono fun e W' ⟨he, hb⟩ => ?_
  subst he
  exact ⟨_, rfl, law_post hW' rfl rfl rfl (by kernel_rfl) hb⟩
/-- The row's statement. -/
theorem row_holds : Rows.HmacTurnedSaid :=
  OpenClaim.holds_of_wide 11 Tryd.f11 rfl rfl rfl rfl rfl rfl rfl ⟨rfl, rfl, rfl, rfl, rfl⟩ rfl rfl rfl rfl rfl (by kernel_rfl) Tryd.func11 (by kernel_rfl)
    (of_decide_eq_true (by kernel_rfl)) (by unfold Func.isWrapper; first | (rw [if_pos (by decide +kernel)]; kernel_rfl) | (rw [if_neg (by decide +kernel)]; exact ⟨rfl, rfl⟩))
    (fun os started H enc _ => lifted os started H enc)
/-- The tied card. -/
theorem proved : Rows.HmacTurnedCardSaid :=
  Claim7.holds_tied_plain_at .later [] [.data, .data] true (true, "c1a692658ed27d6b705437531a4023b4f004fc9067d80523147904b9ccf5c916") false
    row_holds (fun _ h => by cases h) (by kernel_rfl) (fun _ h => by cases h) hmacTurned_row_tie rfl ⟨rfl, rfl⟩ (by kernel_rfl) rfl
    (fun f fn hf hfn => by
      obtain rfl : f = 11 := Option.some.inj ((show Tryd.prog.funcNamed "casemate/casematelaw03.HmacTurned" = some 11 by kernel_rfl).symm.trans hf) |>.symm
      obtain rfl : fn = Tryd.f11 := (Option.some.inj (Tryd.func11.symm.trans hfn)).symm
      exact ⟨by kernel_rfl, fun j t ht => by
        rw [Tryd.params11] at ht
        have hm : t ∈ [22, 22, 3, 5] := by simpa using Array.mem_of_getElem? ht
        have hall : ([22, 22, 3, 5].all fun u => !Tryd.prog.wantsStandIn u) = true := by kernel_rfl
        exact (show Tryd.prog.wantsStandIn t = false by simpa using List.all_eq_true.1 hall t hm)⟩)
    (by kernel_rfl)
#print axioms proved

end Go.Proofs.YtmkaagiabafooaaDoor.hmacTurned
