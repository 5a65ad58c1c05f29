/-
  For all master keys, numbers, stamps and bytes the law SealTurns of package casematelaw22 returns true, and they read afterwards as before: blocks are sealed and opened as the document says, or are none. Condition: none.
-/
import Derived.Test.YtpkeofioobmmoaaDoorKR
import Derived.Test.YtpkeofioobmmoaaDoorAeSE
import Derived.Test.YtpkeofioobmmoaaDoorShLaid
namespace Go.Proofs.YtpkeofioobmmoaaDoor.sealTurns
open Go.ChangeShapes Go.WideShapes Go.ChangeAt Go.RowKit Go.Proofs.YtpkeofioobmmoaaDoor.ae
set_option maxRecDepth 100000 in
set_option maxHeartbeats 1000000 in
theorem walkBig (m : List Nat) (n s : Nat) (x : Option Addr) (L cap : Nat) (hl : 2000 < L) (w : World) (hG : sh.Glob w) : Calls Tryd.prog 7 #[.agg (ncells m), .int .u64 n, .int .u64 s, .slice x L cap] w fun e w' => e = .returned (.bool true) ∧ Below w.heap.size w w' := by
  have t0 : (2000 : Int) < L := by omega
  clear hl
  have HB : Hid (Below w.heap.size w (w.alloc (.cells (ncells m) 38))) := (Below.refl _ _).alloc (Nat.le_refl _) _
  have HG := Lib.hid (hG.below HB.out hG.lt)
  clear hG
  go_enter Tryd.func7, Tryd.ntmps7
  go_wp2_with fail
  refine (alive22 _ HG.out).mono ?_
  rintro e w1 ⟨rfl, hb⟩
  have B1 := Lib.hid (HB.out.trans (hb.mono HB.out.size))
  clear hb
  go_wp2_with fail
  go_ret
  exact ⟨rfl, B1.out⟩
set_option maxRecDepth 100000 in
set_option maxHeartbeats 4000000 in
theorem walk (m b : List Nat) (hm : ae.Bts 32 m) (n s : Nat) (hn : n ≤ 18446744073709551615) (hs64 : s ≤ 18446744073709551615) (x : Option Addr) (cap : Nat) (hL : 512 = b.length) (w : World) (hs : ae.Sees w (.slice x 512 cap) b) (hG : sh.Glob w) :
    Calls Tryd.prog 7 #[.agg (ncells m), .int .u64 n, .int .u64 s, .slice x 512 cap] w fun e w' => e = .returned (.bool true) ∧ Below w.heap.size w w' := by
  have AL : Hid (∀ W : World, sh.Glob W → Calls Tryd.prog 21 #[] W fun e w' => e = .returned (.bool true) ∧ Below W.heap.size W w') := fun W hg => alive22 W hg
  have SR : ∀ (W : World) (q : Nat) (J : List Nat), ae.Byt J → J.length = 512 → W.heap[q]? = some (.cells (ncells J) 5 (0, 0)) → ae.Sees W (.slice (some ⟨q, 0, none⟩) 512 512) J := fun W q J hJ hl hq => sees_row W q J hJ (by rw [hl]; decide) hq 512 hl.symm
  have S1 : Hid (∀ (W : World), sh.Glob W → ae.Sees W (.slice x 512 cap) b → Calls Tryd.prog 22 #[.agg (ncells m), .int .u64 n, .int .u64 s, .slice x 512 cap] W (SecP W 512 (sealN m n s b))) :=
    fun W hg h => sealC m _ hm n s hn _ cap W h hL hg
  have O1 : Hid (∀ (W : World), sh.Glob W → ae.Sees W (.slice x 512 cap) b → Calls Tryd.prog 24 #[.agg (ncells m), .int .u64 n, .int .u64 s, .slice x 512 cap] W (SecP W 512 (openN m n s b))) :=
    fun W hg h => openC m _ hm n s hn _ cap W h hL hg
  have R1 : Hid (∀ (W : World) (g : Nat), W.heap[g]? = some (.cells (ncells m) 38 (0, 0)) → ae.Sees W (.slice x 512 cap) b → Calls Tryd.prog 23 #[.slice (some ⟨g, 0, none⟩) 32 32, .int .u64 n, .int .u64 s, .slice x 512 cap, .bool false] W (TurnP W (sealN m n s b))) :=
    fun W g hg h => refTurn m b hm n s hn hs64 false _ 32 x cap W (sees32 hg hm) h hL
  have R2 : Hid (∀ (W : World) (g : Nat), W.heap[g]? = some (.cells (ncells m) 38 (0, 0)) → ae.Sees W (.slice x 512 cap) b → Calls Tryd.prog 23 #[.slice (some ⟨g, 0, none⟩) 32 32, .int .u64 n, .int .u64 s, .slice x 512 cap, .bool true] W (TurnP W (openN m n s b))) :=
    fun W g hg h => refTurn m b hm n s hn hs64 true _ 32 x cap W (sees32 hg hm) h hL
  have E1 : Hid (((strN (sealN m n s b)).toList == (strN (sealN m n s b)).toList) = true) := by show _ = _; simp
  have E2 : Hid (((strN (openN m n s b)).toList == (strN (openN m n s b)).toList) = true) := by show _ = _; simp
  have C1 : Hid (∀ (W : World) (q : Nat), W.heap[q]? = some (.cells (ncells (sealN m n s b)) 5 (0, 0)) → ae.Sees W (.slice (some ⟨q, 0, none⟩) 512 512) (sealN m n s b)) := fun W q h => SR W q _ (sealN_byt hm n s hs.1) (sealN_len _ _ _ _) h
  have C2 : Hid (∀ (W : World) (q : Nat), W.heap[q]? = some (.cells (ncells (openN m n s b)) 5 (0, 0)) → ae.Sees W (.slice (some ⟨q, 0, none⟩) 512 512) (openN m n s b)) := fun W q h => SR W q _ (openN_byt hm n s hs.1) (openN_len _ _ _ _) h
  have LM := Lib.hid hm.1
  have G0 := Lib.hid (heap_alloc_new w (.cells (ncells m) 38))
  have HB : Hid (Below w.heap.size w (w.alloc (.cells (ncells m) 38))) := (Below.refl _ _).alloc (Nat.le_refl _) _
  have HG := Lib.hid (hG.below HB.out hG.lt)
  have HS := Lib.hid (hs.below HB.out)
  have a38 := arr38
  clear hm hs hG hn hs64 hL SR
  generalize sealN m n s b = J1 at S1 R1 E1 C1
  generalize openN m n s b = J2 at O1 R2 E2 C2
  go_enter Tryd.func7, Tryd.ntmps7
  go_wp2_with (refine wpList_load_row rfl 38 (.tmp 4) rfl w.heap.size rfl 38 (ncells m) (0, 0) _ G0.out Tryd.underlying38 rfl (i23 LM.out) ?_)
  refine (S1.out _ HG.out HS.out).mono ?_
  rintro e w1 ⟨q1, rfl, hq, hr, hb⟩
  have G0 := Lib.hid ((hb.block _ (blk_lt G0.out)).trans G0.out)
  have HB := Lib.hid (HB.out.trans (hb.mono HB.out.size))
  have HG := Lib.hid (HG.out.below hb HG.out.lt)
  have HS := Lib.hid (HS.out.below hb)
  have U1 := Lib.hid (C1.out _ _ hr)
  clear hq hr
  clear hb S1 C1
  go_wp2_with fail
  refine (R1.out _ _ G0.out HS.out).mono ?_
  rintro e w2 ⟨q2, c2, rfl, hs, hb⟩
  have G0 := Lib.hid ((hb.block _ (blk_lt G0.out)).trans G0.out)
  have HB := Lib.hid (HB.out.trans (hb.mono HB.out.size))
  have HG := Lib.hid (HG.out.below hb HG.out.lt)
  have HS := Lib.hid (HS.out.below hb)
  have U1 := Lib.hid (U1.out.below hb)
  have U2 := Lib.hid hs
  clear hs
  clear hb R1
  go_wp2_with (refine wpList_load_row rfl 38 (.tmp 4) rfl w.heap.size rfl 38 (ncells m) (0, 0) _ G0.out Tryd.underlying38 rfl (i23 LM.out) ?_)
  refine (O1.out _ HG.out HS.out).mono ?_
  rintro e w3 ⟨q3, rfl, hq, hr, hb⟩
  have G0 := Lib.hid ((hb.block _ (blk_lt G0.out)).trans G0.out)
  have HB := Lib.hid (HB.out.trans (hb.mono HB.out.size))
  have HG := Lib.hid (HG.out.below hb HG.out.lt)
  have HS := Lib.hid (HS.out.below hb)
  have U1 := Lib.hid (U1.out.below hb)
  have U2 := Lib.hid (U2.out.below hb)
  have U3 := Lib.hid (C2.out _ _ hr)
  clear hq hr
  clear hb O1 C2
  go_wp2_with fail
  refine (R2.out _ _ G0.out HS.out).mono ?_
  rintro e w4 ⟨q4, c4, rfl, hs, hb⟩
  have G0 := Lib.hid ((hb.block _ (blk_lt G0.out)).trans G0.out)
  have HB := Lib.hid (HB.out.trans (hb.mono HB.out.size))
  have HG := Lib.hid (HG.out.below hb HG.out.lt)
  have HS := Lib.hid (HS.out.below hb)
  have U1 := Lib.hid (U1.out.below hb)
  have U2 := Lib.hid (U2.out.below hb)
  have U3 := Lib.hid (U3.out.below hb)
  have U4 := Lib.hid hs
  clear hs
  clear hb R2
  go_wp2_with fail
  refine (AL.out _ HG.out).mono ?_
  rintro e w5 ⟨rfl, hb⟩
  have G0 := Lib.hid ((hb.block _ (blk_lt G0.out)).trans G0.out)
  have HB := Lib.hid (HB.out.trans (hb.mono HB.out.size))
  have HG := Lib.hid (HG.out.below hb HG.out.lt)
  have HS := Lib.hid (HS.out.below hb)
  have U1 := Lib.hid (U1.out.below hb)
  have U2 := Lib.hid (U2.out.below hb)
  have U3 := Lib.hid (U3.out.below hb)
  have U4 := Lib.hid (U4.out.below hb)
  have k1 := U1.out.str
  have k2 := U2.out.str
  have k3 := U3.out.str
  have k4 := U4.out.str
  have e1 := E1.out
  have e2 := E2.out
  clear hb
  go_wp2_with fail
  go_ret
  exact ⟨rfl, HB.out⟩
set_option maxRecDepth 100000 in
set_option maxHeartbeats 4000000 in
theorem walkNo (m : List Nat) (hm : ae.Bts 32 m) (n s : Nat) (x : Option Addr) (L cap : Nat) (hl : L ≤ 2000) (hn : L ≠ 512) (w : World) (hG : sh.Glob w) :
    Calls Tryd.prog 7 #[.agg (ncells m), .int .u64 n, .int .u64 s, .slice x L cap] w fun e w' => e = .returned (.bool true) ∧ Below w.heap.size w w' := by
  have t0 : ¬ (2000 : Int) < L := by omega
  have AL : Hid (∀ W : World, sh.Glob W → Calls Tryd.prog 21 #[] W fun e w' => e = .returned (.bool true) ∧ Below W.heap.size W w') := fun W hg => alive22 W hg
  have S1 : Hid (∀ (W : World), Calls Tryd.prog 22 #[.agg (ncells m), .int .u64 n, .int .u64 s, .slice x L cap] W fun e w' => e = .returned (.tuple #[.slice none 0 0, .int .i64 3]) ∧ Below W.heap.size W w') := fun W => sealNo m hm n s x L cap hn W
  have O1 : Hid (∀ (W : World), Calls Tryd.prog 24 #[.agg (ncells m), .int .u64 n, .int .u64 s, .slice x L cap] W fun e w' => e = .returned (.tuple #[.slice none 0 0, .int .i64 3]) ∧ Below W.heap.size W w') := fun W => openNo m hm n s x L cap hn W
  have RR : Hid (∀ (W : World) (v : Value) (bk : Bool), Calls Tryd.prog 23 #[v, .int .u64 n, .int .u64 s, .slice x L cap, .bool bk] W fun e w' => e = .returned (.tuple #[.slice none 0 0, .int .i64 3]) ∧ W = w') := fun W v bk => refTurnNo n s bk v x L cap hn W
  have cn : ∀ W : World, (convert 49 9 (.slice none 0 0)).run Tryd.prog W = .ok (.string (strN [])) W := fun W => (sees_nil W).str
  have en : ((strN []).toList == (strN []).toList) = true := by simp
  have LM := Lib.hid hm.1
  have G0 := Lib.hid (heap_alloc_new w (.cells (ncells m) 38))
  have HB : Hid (Below w.heap.size w (w.alloc (.cells (ncells m) 38))) := (Below.refl _ _).alloc (Nat.le_refl _) _
  have HG := Lib.hid (hG.below HB.out hG.lt)
  have a38 := arr38
  clear hm hG hn hl
  generalize strN [] = S0 at cn en
  go_enter Tryd.func7, Tryd.ntmps7
  go_wp2_with (refine wpList_load_row rfl 38 (.tmp 4) rfl w.heap.size rfl 38 (ncells m) (0, 0) _ G0.out Tryd.underlying38 rfl (i23 LM.out) ?_)
  refine (S1.out _).mono ?_
  rintro e w1 ⟨rfl, hb⟩
  have G0 := Lib.hid ((hb.block _ (blk_lt G0.out)).trans G0.out)
  have HB := Lib.hid (HB.out.trans (hb.mono HB.out.size))
  have HG := Lib.hid (HG.out.below hb HG.out.lt)
  clear hb S1
  go_wp2_with fail
  refine (RR.out _ _ _).mono ?_
  rintro e w2 ⟨rfl, rfl⟩
  go_wp2_with (refine wpList_load_row rfl 38 (.tmp 4) rfl w.heap.size rfl 38 (ncells m) (0, 0) _ G0.out Tryd.underlying38 rfl (i23 LM.out) ?_)
  refine (O1.out _).mono ?_
  rintro e w3 ⟨rfl, hb⟩
  have G0 := Lib.hid ((hb.block _ (blk_lt G0.out)).trans G0.out)
  have HB := Lib.hid (HB.out.trans (hb.mono HB.out.size))
  have HG := Lib.hid (HG.out.below hb HG.out.lt)
  clear hb O1
  go_wp2_with fail
  refine (RR.out _ _ _).mono ?_
  rintro e w4 ⟨rfl, rfl⟩
  go_wp2_with fail
  refine (AL.out _ HG.out).mono ?_
  rintro e w5 ⟨rfl, hb⟩
  have G0 := Lib.hid ((hb.block _ (blk_lt G0.out)).trans G0.out)
  have HB := Lib.hid (HB.out.trans (hb.mono HB.out.size))
  have HG := Lib.hid (HG.out.below hb HG.out.lt)
  clear hb
  go_wp2_with fail
  go_ret
  exact ⟨rfl, HB.out⟩
theorem all (m : List Nat) (hm : ae.Bts 32 m) (n s : Nat) (hn : n ≤ 18446744073709551615) (hs64 : s ≤ 18446744073709551615) (v : Value) (b : List Nat) (w : World) (hs : ae.Sees w v b) (hG : sh.Glob w) :
    Calls Tryd.prog 7 #[.agg (ncells m), .int .u64 n, .int .u64 s, v] w fun e w' => e = .returned (.bool true) ∧ Below w.heap.size w w' := by
  obtain ⟨x, cap, rfl, _⟩ := id hs.form
  by_cases h : b.length ≤ 2000
  · by_cases h2 : b.length = 512
    · rw [h2] at hs ⊢
      exact walk m b hm n s hn hs64 x cap h2.symm w hs hG
    · exact walkNo m hm n s x _ cap h h2 w hG
  · exact walkBig m n s x _ cap (by omega) w hG

set_option maxRecDepth 100000 in
theorem lifted (os : Os) (started : os.Started) (H : Type) (enc : TypeId × Value → H) :
    ReturnsInHanded {} Tryd.checked os 7 .any (fun w args => (Rows.sealTurnsSpec.pre enc Tryd.prog Tryd.f7 [] false w args ∧ laidMetH Tryd.prog sh.laid2 w) ∧ sizedMet enc Tryd.prog Tryd.f7 (OpenSpec.ofChange Rows.sealTurnsSpec) false w args)
      (Rows.sealTurnsSpec.post enc Tryd.prog Tryd.f7 false true false false) := by
  refine returnsInHanded_of_change_and (C := Tryd.checked) (X := fun w _ => laidMetH Tryd.prog sh.laid2 w) (fun _ _ _ hh h => h.of_heap hh) sh.own started (by kernel_rfl) Tryd.func7
    (ChangeSpec.witness_shaped (enc := enc) (C := Tryd.checked) (os := os) (X := fun w _ => laidMetH Tryd.prog sh.laid2 w) false (World.doorLaid Tryd.prog 400 os) #[.agg (Array.replicate 32 (.int .u8 0)), .int .u64 0, .int .u64 0, .slice none 0 0] 8 rfl (World.shaped_of_RefB (by kernel_rfl) (by kernel_rfl)) (by kernel_rfl) (by kernel_rfl) (by kernel_rfl) (sh.door_met os _)) ?_
  intro W base args ds gs before hval0 hW _ _ hL _
  have hval : ∀ (j : Nat) t v, Tryd.f7.params[j]? = some t → args[j]? = some v → Value.okWide Tryd.prog W .any base t v := hval0
  have hW' := hW
  obtain ⟨p, q, hA0, hV, rfl, hfz, hnd⟩ := hW
  have hA : DataW.TrodAll enc Tryd.prog W 0 (fun _ => true) true Tryd.f7.params.toList args.toList ds p := hA0
  rw [Tryd.params7] at hA hval
  obtain ⟨v0, vs0, d0, ds0, p0, q0, hargs, rfl, rfl, h0, r0⟩ := trodAll_cons hA
  obtain ⟨v1, vs1, d1, ds1, p1, q1, rfl, rfl, rfl, h1, r1⟩ := trodAll_cons r0
  obtain ⟨v2, vs2, d2, ds2, p2, q2, rfl, rfl, rfl, h2, r2⟩ := trodAll_cons r1
  obtain ⟨v3, vs3, d3, ds3, p3, q3, rfl, rfl, rfl, h3, r3⟩ := trodAll_cons r2
  obtain ⟨rfl, rfl, rfl⟩ := trodAll_nil r3
  obtain rfl : args = #[v0, v1, v2, v3] := by cases args; simp_all
  obtain ⟨rfl, rfl⟩ := trodVars_none hV
  obtain ⟨x0, s0, rfl⟩ := ae.open_arr (n := 32) (by kernel_rfl) (by kernel_rfl) (hval 0 38 v0 rfl rfl) h0
  obtain ⟨a1, rfl, rfl, rfl, w1⟩ := open_int Tryd.underlying22 (hval 1 22 v1 rfl rfl) h1
  have b1 := bounds_u64 w1
  obtain ⟨n1, rfl⟩ : ∃ n : Nat, a1 = n := ⟨a1.toNat, by omega⟩
  obtain ⟨a2, rfl, rfl, rfl, w2⟩ := open_int Tryd.underlying22 (hval 2 22 v2 rfl rfl) h2
  have b2 := bounds_u64 w2
  obtain ⟨n2, rfl⟩ : ∃ n : Nat, a2 = n := ⟨a2.toNat, by omega⟩
  obtain ⟨x3, s3⟩ := ae.open_sees (hval 3 49 v3 rfl rfl) h3
  refine (all x0 s0 n1 n2 (by omega) (by omega) v3 x3 W s3 (sh.of_laid hL)).mono fun e W' ⟨he, hb⟩ => ?_
  subst he
  exact ⟨_, rfl, sh.law_post hW' rfl rfl rfl (by kernel_rfl) hb⟩
/-- The row's statement. -/
theorem row_holds : Rows.SealTurnsSaid :=
  OpenClaim.holds_of_wide 7 Tryd.f7 rfl rfl rfl rfl rfl rfl rfl ⟨rfl, rfl, rfl, rfl, rfl⟩ rfl rfl rfl rfl rfl (by kernel_rfl) Tryd.func7 (by kernel_rfl)
    (of_decide_eq_true (by kernel_rfl)) (by unfold Func.isWrapper; first | (rw [if_pos (by decide +kernel)]; kernel_rfl) | (rw [if_neg (by decide +kernel)]; exact ⟨rfl, rfl⟩))
    (fun os started H enc _ => lifted os started H enc)
/-- The tied card. -/
theorem proved : Rows.SealTurnsCardSaid :=
  Claim7.holds_tied_plain_at .later [] [.data, .data] true (true, "0457159e5fbc900da0b901a90696513c7756748e29878623afbd297629de2456") false
    row_holds (fun _ h => by cases h) (by kernel_rfl) (fun _ h => by cases h) Go.Proofs.YtpkeofioobmmoaaDoor.sealTurns_row_tie rfl ⟨rfl, rfl⟩ (by kernel_rfl) rfl
    (fun f fn hf hfn => by
      obtain rfl : f = 7 := Option.some.inj ((show Tryd.prog.funcNamed "casemate/casematelaw22.SealTurns" = some 7 by kernel_rfl).symm.trans hf) |>.symm
      obtain rfl : fn = Tryd.f7 := (Option.some.inj (Tryd.func7.symm.trans hfn)).symm
      exact ⟨by kernel_rfl, fun j t ht => by
        rw [Tryd.params7] at ht
        have hm : t ∈ [38, 22, 22, 49] := by simpa using Array.mem_of_getElem? ht
        have hall : ([38, 22, 22, 49].all fun u => !Tryd.prog.wantsStandIn u) = true := by kernel_rfl
        exact (show Tryd.prog.wantsStandIn t = false by simpa using List.all_eq_true.1 hall t hm)⟩)
    (by kernel_rfl)
#print axioms proved
end Go.Proofs.YtpkeofioobmmoaaDoor.sealTurns
