/-
  For all master keys, numbers, stamps and bytes the law SealBack of package casematelaw22 returns true, and they read afterwards as before: what is sealed is opened as it was, and what is opened is sealed again as it was. Condition: none.
-/
import Derived.Test.YtpkeofioobmmoaaDoorKX
import Derived.Test.YtpkeofioobmmoaaDoorAeSE
import Derived.Test.YtpkeofioobmmoaaDoorShLaid
namespace Go.Proofs.YtpkeofioobmmoaaDoor.sealBack
open Go.ChangeShapes Go.WideShapes Go.ChangeAt Go.RowKit Go.Proofs.YtpkeofioobmmoaaDoor.ae
set_option maxRecDepth 100000 in
set_option maxHeartbeats 1000000 in
theorem walkBig (m : List Nat) (n s : Nat) (x : Option Addr) (L cap : Nat) (hl : 512 < L) (w : World) (hG : sh.Glob w) : Calls Tryd.prog 9 #[.agg (ncells m), .int .u64 n, .int .u64 s, .slice x L cap] w fun e w' => e = .returned (.bool true) ∧ Below w.heap.size w w' := by
  have t0 : (512 : Int) < L := by omega
  clear hl
  have HB : Hid (Below w.heap.size w (w.alloc (.cells (ncells m) 38))) := (Below.refl _ _).alloc (Nat.le_refl _) _
  have HG := Lib.hid (hG.below HB.out hG.lt)
  clear hG
  go_enter Tryd.func9, Tryd.ntmps9
  go_wp2_with fail
  refine (alive22 _ HG.out).mono ?_
  rintro e w1 ⟨rfl, hb⟩
  have B1 := Lib.hid (HB.out.trans (hb.mono HB.out.size))
  clear hb
  go_wp2_with fail
  go_ret
  exact ⟨rfl, B1.out⟩
set_option maxRecDepth 100000 in
set_option maxHeartbeats 4000000 in
theorem walk (m b : List Nat) (hm : ae.Bts 32 m) (n s : Nat) (hn : n ≤ 18446744073709551615) (x : Option Addr) (L cap : Nat) (hL : L = b.length) (hl : L ≤ 512) (w : World) (hs : ae.Sees w (.slice x L cap) b) (hG : sh.Glob w) :
    Calls Tryd.prog 9 #[.agg (ncells m), .int .u64 n, .int .u64 s, .slice x L cap] w fun e w' => e = .returned (.bool true) ∧ Below w.heap.size w w' := by
  have t0 : ¬ (512 : Int) < L := by omega
  have AL : Hid (∀ W : World, sh.Glob W → Calls Tryd.prog 21 #[] W fun e w' => e = .returned (.bool true) ∧ Below W.heap.size W w') := fun W hg => alive22 W hg
  have BL : Hid (∀ W : World, ae.Sees W (.slice x L cap) b → Calls Tryd.prog 26 #[.slice x L cap] W (BlkP W b)) := fun W h => blockC b x L cap W h hL hl
  have SR : ∀ (W : World) (q : Nat) (J : List Nat), ae.Byt J → J.length = 512 → W.heap[q]? = some (.cells (ncells J) 5 (0, 0)) → ae.Sees W (.slice (some ⟨q, 0, none⟩) 512 512) J := fun W q J hJ hl hq => sees_row W q J hJ (by rw [hl]; decide) hq 512 hl.symm
  have yP : ae.Byt (padN b) := padN_byt hs.1
  have lP : (padN b).length = 512 := padN_len (by omega)
  have S1 : Hid (∀ (W : World) (q : Nat), sh.Glob W → W.heap[q]? = some (.cells (ncells (padN b)) 5 (0, 0)) → Calls Tryd.prog 22 #[.agg (ncells m), .int .u64 n, .int .u64 s, .slice (some ⟨q, 0, none⟩) 512 512] W (SecP W 512 (sealN m n s (padN b)))) :=
    fun W q hg h => sealC m _ hm n s hn _ 512 W (SR W q _ yP lP h) lP.symm hg
  have O1 : Hid (∀ (W : World) (q : Nat), sh.Glob W → W.heap[q]? = some (.cells (ncells (sealN m n s (padN b))) 5 (0, 0)) → Calls Tryd.prog 24 #[.agg (ncells m), .int .u64 n, .int .u64 s, .slice (some ⟨q, 0, none⟩) 512 512] W (SecP W 512 (padN b))) :=
    fun W q hg h => by
      have := openC m _ hm n s hn _ 512 W (SR W q _ (sealN_byt hm n s yP) (sealN_len _ _ _ _) h) (sealN_len _ _ _ _).symm hg
      rw [open_seal hm n s lP yP] at this
      exact this
  have O2 : Hid (∀ (W : World) (q : Nat), sh.Glob W → W.heap[q]? = some (.cells (ncells (padN b)) 5 (0, 0)) → Calls Tryd.prog 24 #[.agg (ncells m), .int .u64 n, .int .u64 s, .slice (some ⟨q, 0, none⟩) 512 512] W (SecP W 512 (openN m n s (padN b)))) :=
    fun W q hg h => openC m _ hm n s hn _ 512 W (SR W q _ yP lP h) lP.symm hg
  have S2 : Hid (∀ (W : World) (q : Nat), sh.Glob W → W.heap[q]? = some (.cells (ncells (openN m n s (padN b))) 5 (0, 0)) → Calls Tryd.prog 22 #[.agg (ncells m), .int .u64 n, .int .u64 s, .slice (some ⟨q, 0, none⟩) 512 512] W (SecP W 512 (padN b))) :=
    fun W q hg h => by
      have := sealC m _ hm n s hn _ 512 W (SR W q _ (openN_byt hm n s yP) (openN_len _ _ _ _) h) (openN_len _ _ _ _).symm hg
      rw [seal_open hm n s lP yP] at this
      exact this
  have STP : Hid (∀ (W : World) (q : Nat), W.heap[q]? = some (.cells (ncells (padN b)) 5 (0, 0)) → (convert 49 9 (.slice (some ⟨q, 0, none⟩) 512 512)).run Tryd.prog W = .ok (.string (strN (padN b))) W) := fun W q h => (SR W q _ yP lP h).str
  have EQ : Hid (((strN (padN b)).toList == (strN (padN b)).toList) = true) := by show _ = _; simp
  have LM := Lib.hid hm.1
  have G0 := Lib.hid (heap_alloc_new w (.cells (ncells m) 38))
  have HB : Hid (Below w.heap.size w (w.alloc (.cells (ncells m) 38))) := (Below.refl _ _).alloc (Nat.le_refl _) _
  have HG := Lib.hid (hG.below HB.out hG.lt)
  have HS := Lib.hid (hs.below HB.out)
  clear hm hs hG hn hL hl SR yP lP
  have BP : Hid (∀ W e w', BlkP W b e w' → ∃ q, e = .returned (.slice (some ⟨q, 0, none⟩) 512 512) ∧ W.heap.size ≤ q ∧ w'.heap[q]? = some (.cells (ncells (padN b)) 5 (0, 0)) ∧ Below W.heap.size W w') := fun _ _ _ h => h
  generalize sealN m n s (padN b) = J1 at S1 O1
  generalize openN m n s (padN b) = J2 at O2 S2
  generalize strN (padN b) = SP at STP EQ
  generalize padN b = P at S1 O1 O2 S2 STP BP
  go_enter Tryd.func9, Tryd.ntmps9
  go_wp2_with fail
  refine (BL.out _ HS.out).mono ?_
  rintro e w1 hbp
  obtain ⟨q0, rfl, hq, hr, hb⟩ := BP.out _ _ _ hbp
  have G0 := Lib.hid ((hb.block _ (blk_lt G0.out)).trans G0.out)
  have HB := Lib.hid (HB.out.trans (hb.mono HB.out.size))
  have HG := Lib.hid (HG.out.below hb HG.out.lt)
  have R0 := Lib.hid hr
  clear hq hr hb hbp HS BL BP
  go_wp2_with (refine wpList_load_row rfl 38 (.tmp 4) rfl w.heap.size rfl 38 (ncells m) (0, 0) _ G0.out Tryd.underlying38 rfl (i23 LM.out) ?_)
  refine (S1.out _ _ HG.out R0.out).mono ?_
  rintro e w2 ⟨q1, rfl, hq, hr, hb⟩
  have G0 := Lib.hid ((hb.block _ (blk_lt G0.out)).trans G0.out)
  have HB := Lib.hid (HB.out.trans (hb.mono HB.out.size))
  have HG := Lib.hid (HG.out.below hb HG.out.lt)
  have R0 := Lib.hid ((hb.block _ (blk_lt R0.out)).trans R0.out)
  have R1 := Lib.hid hr
  clear hq hr
  clear hb S1
  go_wp2_with (refine wpList_load_row rfl 38 (.tmp 4) rfl w.heap.size rfl 38 (ncells m) (0, 0) _ G0.out Tryd.underlying38 rfl (i23 LM.out) ?_)
  refine (O1.out _ _ HG.out R1.out).mono ?_
  rintro e w3 ⟨q2, rfl, hq, hr, hb⟩
  have G0 := Lib.hid ((hb.block _ (blk_lt G0.out)).trans G0.out)
  have HB := Lib.hid (HB.out.trans (hb.mono HB.out.size))
  have HG := Lib.hid (HG.out.below hb HG.out.lt)
  have R0 := Lib.hid ((hb.block _ (blk_lt R0.out)).trans R0.out)
  have R1 := Lib.hid ((hb.block _ (blk_lt R1.out)).trans R1.out)
  have R2 := Lib.hid hr
  clear hq hr
  clear hb O1 R1
  go_wp2_with (refine wpList_load_row rfl 38 (.tmp 4) rfl w.heap.size rfl 38 (ncells m) (0, 0) _ G0.out Tryd.underlying38 rfl (i23 LM.out) ?_)
  refine (O2.out _ _ HG.out R0.out).mono ?_
  rintro e w4 ⟨q3, rfl, hq, hr, hb⟩
  have G0 := Lib.hid ((hb.block _ (blk_lt G0.out)).trans G0.out)
  have HB := Lib.hid (HB.out.trans (hb.mono HB.out.size))
  have HG := Lib.hid (HG.out.below hb HG.out.lt)
  have R0 := Lib.hid ((hb.block _ (blk_lt R0.out)).trans R0.out)
  have R2 := Lib.hid ((hb.block _ (blk_lt R2.out)).trans R2.out)
  have R3 := Lib.hid hr
  clear hq hr
  clear hb O2
  go_wp2_with (refine wpList_load_row rfl 38 (.tmp 4) rfl w.heap.size rfl 38 (ncells m) (0, 0) _ G0.out Tryd.underlying38 rfl (i23 LM.out) ?_)
  refine (S2.out _ _ HG.out R3.out).mono ?_
  rintro e w5 ⟨q4, rfl, hq, hr, hb⟩
  have G0 := Lib.hid ((hb.block _ (blk_lt G0.out)).trans G0.out)
  have HB := Lib.hid (HB.out.trans (hb.mono HB.out.size))
  have HG := Lib.hid (HG.out.below hb HG.out.lt)
  have R0 := Lib.hid ((hb.block _ (blk_lt R0.out)).trans R0.out)
  have R2 := Lib.hid ((hb.block _ (blk_lt R2.out)).trans R2.out)
  have R3 := Lib.hid ((hb.block _ (blk_lt R3.out)).trans R3.out)
  have R4 := Lib.hid hr
  clear hq hr
  clear hb S2 R3
  go_wp2_with fail
  refine (AL.out _ HG.out).mono ?_
  rintro e w6 ⟨rfl, hb⟩
  have G0 := Lib.hid ((hb.block _ (blk_lt G0.out)).trans G0.out)
  have HB := Lib.hid (HB.out.trans (hb.mono HB.out.size))
  have HG := Lib.hid (HG.out.below hb HG.out.lt)
  have R0 := Lib.hid ((hb.block _ (blk_lt R0.out)).trans R0.out)
  have R2 := Lib.hid ((hb.block _ (blk_lt R2.out)).trans R2.out)
  have R4 := Lib.hid ((hb.block _ (blk_lt R4.out)).trans R4.out)
  have c0 := STP.out _ _ R0.out
  have c2 := STP.out _ _ R2.out
  have c4 := STP.out _ _ R4.out
  have eq := EQ.out
  clear hb
  go_wp2_with fail
  go_ret
  exact ⟨rfl, HB.out⟩
theorem all (m : List Nat) (hm : ae.Bts 32 m) (n s : Nat) (hn : n ≤ 18446744073709551615) (v : Value) (b : List Nat) (w : World) (hs : ae.Sees w v b) (hG : sh.Glob w) :
    Calls Tryd.prog 9 #[.agg (ncells m), .int .u64 n, .int .u64 s, v] w fun e w' => e = .returned (.bool true) ∧ Below w.heap.size w w' := by
  obtain ⟨x, cap, rfl, _⟩ := id hs.form
  by_cases h : b.length ≤ 512
  · exact walk m b hm n s hn x _ cap rfl h w hs hG
  · exact walkBig m n s x _ cap (by omega) w hG

set_option maxRecDepth 100000 in
theorem lifted (os : Os) (started : os.Started) (H : Type) (enc : TypeId × Value → H) :
    ReturnsInHanded {} Tryd.checked os 9 .any (fun w args => (Rows.sealBackSpec.pre enc Tryd.prog Tryd.f9 [] false w args ∧ laidMetH Tryd.prog sh.laid2 w) ∧ sizedMet enc Tryd.prog Tryd.f9 (OpenSpec.ofChange Rows.sealBackSpec) false w args)
      (Rows.sealBackSpec.post enc Tryd.prog Tryd.f9 false true false false) := by
  refine returnsInHanded_of_change_and (C := Tryd.checked) (X := fun w _ => laidMetH Tryd.prog sh.laid2 w) (fun _ _ _ hh h => h.of_heap hh) sh.own started (by kernel_rfl) Tryd.func9
    (ChangeSpec.witness_shaped (enc := enc) (C := Tryd.checked) (os := os) (X := fun w _ => laidMetH Tryd.prog sh.laid2 w) false (World.doorLaid Tryd.prog 400 os) #[.agg (Array.replicate 32 (.int .u8 0)), .int .u64 0, .int .u64 0, .slice none 0 0] 8 rfl (World.shaped_of_RefB (by kernel_rfl) (by kernel_rfl)) (by kernel_rfl) (by kernel_rfl) (by kernel_rfl) (sh.door_met os _)) ?_
  intro W base args ds gs before hval0 hW _ _ hL _
  have hval : ∀ (j : Nat) t v, Tryd.f9.params[j]? = some t → args[j]? = some v → Value.okWide Tryd.prog W .any base t v := hval0
  have hW' := hW
  obtain ⟨p, q, hA0, hV, rfl, hfz, hnd⟩ := hW
  have hA : DataW.TrodAll enc Tryd.prog W 0 (fun _ => true) true Tryd.f9.params.toList args.toList ds p := hA0
  rw [Tryd.params9] at hA hval
  obtain ⟨v0, vs0, d0, ds0, p0, q0, hargs, rfl, rfl, h0, r0⟩ := trodAll_cons hA
  obtain ⟨v1, vs1, d1, ds1, p1, q1, rfl, rfl, rfl, h1, r1⟩ := trodAll_cons r0
  obtain ⟨v2, vs2, d2, ds2, p2, q2, rfl, rfl, rfl, h2, r2⟩ := trodAll_cons r1
  obtain ⟨v3, vs3, d3, ds3, p3, q3, rfl, rfl, rfl, h3, r3⟩ := trodAll_cons r2
  obtain ⟨rfl, rfl, rfl⟩ := trodAll_nil r3
  obtain rfl : args = #[v0, v1, v2, v3] := by cases args; simp_all
  obtain ⟨rfl, rfl⟩ := trodVars_none hV
  obtain ⟨x0, s0, rfl⟩ := ae.open_arr (n := 32) (by kernel_rfl) (by kernel_rfl) (hval 0 38 v0 rfl rfl) h0
  obtain ⟨a1, rfl, rfl, rfl, w1⟩ := open_int Tryd.underlying22 (hval 1 22 v1 rfl rfl) h1
  have b1 := bounds_u64 w1
  obtain ⟨n1, rfl⟩ : ∃ n : Nat, a1 = n := ⟨a1.toNat, by omega⟩
  obtain ⟨a2, rfl, rfl, rfl, w2⟩ := open_int Tryd.underlying22 (hval 2 22 v2 rfl rfl) h2
  have b2 := bounds_u64 w2
  obtain ⟨n2, rfl⟩ : ∃ n : Nat, a2 = n := ⟨a2.toNat, by omega⟩
  obtain ⟨x3, s3⟩ := ae.open_sees (hval 3 49 v3 rfl rfl) h3
  refine (all x0 s0 n1 n2 (by omega) v3 x3 W s3 (sh.of_laid hL)).mono fun e W' ⟨he, hb⟩ => ?_
  subst he
  exact ⟨_, rfl, sh.law_post hW' rfl rfl rfl (by kernel_rfl) hb⟩
/-- The row's statement. -/
theorem row_holds : Rows.SealBackSaid :=
  OpenClaim.holds_of_wide 9 Tryd.f9 rfl rfl rfl rfl rfl rfl rfl ⟨rfl, rfl, rfl, rfl, rfl⟩ rfl rfl rfl rfl rfl (by kernel_rfl) Tryd.func9 (by kernel_rfl)
    (of_decide_eq_true (by kernel_rfl)) (by unfold Func.isWrapper; first | (rw [if_pos (by decide +kernel)]; kernel_rfl) | (rw [if_neg (by decide +kernel)]; exact ⟨rfl, rfl⟩))
    (fun os started H enc _ => lifted os started H enc)
/-- The tied card. -/
theorem proved : Rows.SealBackCardSaid :=
  Claim7.holds_tied_plain_at .later [] [.data, .data] true (true, "0457159e5fbc900da0b901a90696513c7756748e29878623afbd297629de2456") false
    row_holds (fun _ h => by cases h) (by kernel_rfl) (fun _ h => by cases h) Go.Proofs.YtpkeofioobmmoaaDoor.sealBack_row_tie rfl ⟨rfl, rfl⟩ (by kernel_rfl) rfl
    (fun f fn hf hfn => by
      obtain rfl : f = 9 := Option.some.inj ((show Tryd.prog.funcNamed "casemate/casematelaw22.SealBack" = some 9 by kernel_rfl).symm.trans hf) |>.symm
      obtain rfl : fn = Tryd.f9 := (Option.some.inj (Tryd.func9.symm.trans hfn)).symm
      exact ⟨by kernel_rfl, fun j t ht => by
        rw [Tryd.params9] at ht
        have hm : t ∈ [38, 22, 22, 49] := by simpa using Array.mem_of_getElem? ht
        have hall : ([38, 22, 22, 49].all fun u => !Tryd.prog.wantsStandIn u) = true := by kernel_rfl
        exact (show Tryd.prog.wantsStandIn t = false by simpa using List.all_eq_true.1 hall t hm)⟩)
    (by kernel_rfl)
#print axioms proved
end Go.Proofs.YtpkeofioobmmoaaDoor.sealBack
