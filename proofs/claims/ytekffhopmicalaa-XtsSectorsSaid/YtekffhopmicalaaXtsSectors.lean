/-
  For all keys, tweaks and texts the law XtsSectors of package casematelaw06 returns true, and they read afterwards as before: sectors are turned and turned back, or are none, as the document says. Condition: none.
-/
import Derived.Test.YtekffhopmicalaaRefH
import Derived.Test.YtekffhopmicalaaXtsG
namespace Go.Proofs.Ytekffhopmicalaa.xtsSectors
open Go.ChangeShapes Go.WideShapes Go.ChangeAt Go.RowKit
/-- A text handed out, with a code. -/
def OutP (W : World) (A : List Nat) (ec : Int) (e : Ending) (w' : World) : Prop := ∃ x l c, e = .returned (.tuple #[.slice x l c, .int .i64 ec]) ∧ Sees w' (.slice x l c) A ∧ Below W.heap.size W w'
theorem sees_nil (w : World) : Sees w (.slice none 0 0) [] := ⟨fun x h => by simp at h, .inl ⟨rfl, rfl⟩⟩
set_option maxRecDepth 100000 in
set_option maxHeartbeats 8000000 in
theorem mid (k1 k2 tw b A B : List Nat) (ec : Int) (hk1 : Bts 32 k1) (hk2 : Bts 32 k2) (htw : Bts 16 tw) (x : Option Addr) (L cap : Nat) (w : World) (hs : Sees w (.slice x L cap) b) (hm : L ≤ 9223372036854775807)
    (hz : L ≤ 100 ∨ (65536 < L ∧ L ≤ 65556))
    (t1 : ∀ (g : Nat) (W : World), XIat W g (flat k1) (flat k2) → Sees W (.slice x L cap) b → Calls Try.prog 31 #[.pointer (some ⟨g, 0, none⟩), .agg (ncells tw), .slice x L cap] W (OutP W A ec))
    (s1 : ∀ (g1 g2 q : Nat) (W : World), RC W g1 k1 → RC W g2 k2 → W.heap[q]? = some (.cells (ncells tw) 37 (0, 0)) → Sees W (.slice x L cap) b → Calls Try.prog 32 #[.pointer (some ⟨g1, 0, none⟩), .pointer (some ⟨g2, 0, none⟩), .slice (some ⟨q, 0, none⟩) 16 16, .slice x L cap, .bool false] W (OutP W A ec))
    (t2 : ∀ (g : Nat) (W : World), XIat W g (flat k1) (flat k2) → Sees W (.slice x L cap) b → Calls Try.prog 33 #[.pointer (some ⟨g, 0, none⟩), .agg (ncells tw), .slice x L cap] W (OutP W B ec))
    (s2 : ∀ (g1 g2 q : Nat) (W : World), RC W g1 k1 → RC W g2 k2 → W.heap[q]? = some (.cells (ncells tw) 37 (0, 0)) → Sees W (.slice x L cap) b → Calls Try.prog 32 #[.pointer (some ⟨g1, 0, none⟩), .pointer (some ⟨g2, 0, none⟩), .slice (some ⟨q, 0, none⟩) 16 16, .slice x L cap, .bool true] W (OutP W B ec)) :
    Calls Try.prog 9 #[.agg (ncells k1), .agg (ncells k2), .agg (ncells tw), .slice x L cap] w fun e w' => e = .returned (.bool true) ∧ Below w.heap.size w w' := by
  have NX : Hid (∀ W : World, Calls Try.prog 30 #[.agg (ncells k1), .agg (ncells k2)] W (NewX W (flat k1) (flat k2))) := fun W => newX _ _ hk1 hk2 W
  have RN : Hid (∀ (k : List Nat), Bts 32 k → ∀ (W : World) (q : Nat), W.heap[q]? = some (.cells (ncells k) 23 (0, 0)) → Calls Try.prog 18 #[.slice (some ⟨q, 0, none⟩) 32 32] W fun e w' => ∃ g, e = .returned (.pointer (some ⟨g, 0, none⟩)) ∧ RC w' g k ∧ Below W.heap.size W w') := fun k hk W q h =>
    refNew k q 0 32 W hk (fun i hi => by rw [Nat.zero_add]; exact cell_at h hk.1 hi) (Nat.le_refl _) (by simp [maxLen])
  have H1 := Lib.hid hk1
  have H2 := Lib.hid hk2
  have HT := Lib.hid htw
  have T1 := Lib.hid t1
  have S1 := Lib.hid s1
  have T2 := Lib.hid t2
  have S2 := Lib.hid s2
  have aa := arr16_all
  have SQ1 : Hid (((strN A).toList == (strN A).toList) = true) := by show _ = _; simp
  have SQ2 : Hid (((strN B).toList == (strN B).toList) = true) := by show _ = _; simp
  have EC : Hid ((ec == ec) = true) := by show _ = _; simp
  obtain ⟨W0, hW0⟩ : ∃ W0, W0 = ((w.alloc (.cells (ncells k1) 23)).alloc (.cells (ncells k2) 23)).alloc (.cells (ncells tw) 37) := ⟨_, rfl⟩
  have HB : Hid (Below w.heap.size w W0) := by rw [hW0]; exact (((Below.refl _ _).alloc (Nat.le_refl _) _).alloc (by simp) _).alloc (by simp; omega) _
  have G0 : Hid (W0.heap[w.heap.size]? = some (.cells (ncells k1) 23 (0, 0))) := by show _ = _; rw [hW0, Below.heap_alloc _ _ _ (by simp; omega), Below.heap_alloc _ _ _ (by simp)]; exact heap_alloc_new w _
  have G1 : Hid (W0.heap[w.heap.size + 1]? = some (.cells (ncells k2) 23 (0, 0))) := by show _ = _; rw [hW0, Below.heap_alloc _ _ _ (by simp)]; exact heap_alloc2_new w _ _
  have G2 : Hid (W0.heap[w.heap.size + 1 + 1]? = some (.cells (ncells tw) 37 (0, 0))) := by
    show _ = _
    have := heap_alloc_new ((w.alloc (.cells (ncells k1) 23)).alloc (.cells (ncells k2) 23)) (.cells (ncells tw) 37)
    rw [hW0]; simpa using this
  have SE := Lib.hid (hs.below HB.out)
  have HW0 := Lib.hid hW0
  clear hW0 hk1 hk2 htw t1 s1 t2 s2 hs
  have hi2 : ¬ (65556 : Int) < (L : Int) := by omega
  rcases hz with hz | hz
  · have hi1 : ¬ (100 : Int) < (L : Int) := by omega
    clear hz
    go_enter Try.func9, Try.ntmps9
    go_wp2_with (first
      | (refine wpList_load_row rfl 23 (.tmp 4) rfl w.heap.size rfl 23 (ncells k1) (0, 0) _ (by rw [← HW0.out]; exact G0.out) Try.underlying23 rfl (i23 H1.out.1) ?_)
      | (refine wpList_load_row rfl 23 (.tmp 5) rfl (w.heap.size + 1) rfl 23 (ncells k2) (0, 0) _ (by rw [← HW0.out]; exact G1.out) Try.underlying23 rfl (i23 H2.out.1) ?_))
    rw [← HW0.out]
    refine (NX.out _).mono ?_
    rintro e w1 ⟨g, rfl, hx, hb⟩
    have X1 := Lib.hid hx
    have B1 := Lib.hid (HB.out.trans (hb.mono HB.out.size))
    have G01 := Lib.hid ((hb.block _ (blk_lt G0.out)).trans G0.out)
    have G11 := Lib.hid ((hb.block _ (blk_lt G1.out)).trans G1.out)
    have G21 := Lib.hid ((hb.block _ (blk_lt G2.out)).trans G2.out)
    have SE1 := Lib.hid (SE.out.below hb)
    clear hx hb HB G0 G1 G2 SE HW0
    clear W0
    go_wp2_with fail
    refine wp_region_held_drew (S := fun W => Below w1.heap.size w1 W) (by kernel_rfl) (Below.refl _ _).drew (fun hS => ?_)
    refine' wpAnyH_take (i := 0) ?h1x0p ?hsx0p ?hfx0p ?hrx0p ?hQx0p (Or.inl ⟨?hwx0p, ?hyx0p⟩) hS ?restx0p
    case h1x0p => (simp only [List.getElem?_toArray, List.getElem?_cons_zero]; rfl)
    case hsx0p => kernel_rfl
    case hfx0p => kernel_rfl
    case hrx0p => kernel_rfl
    case hQx0p => exact fun _ _ _ h => h
    case hwx0p => rfl
    case hyx0p =>
      intro W hW
      go_simp
      try with_reducible rfl
    simp only [Act.put, List.setIfInBounds_toArray, List.set_cons_succ, List.set_cons_zero]
    refine' wpAnyH_take (i := 2) ?h1x2p ?hsx2p ?hfx2p ?hrx2p ?hQx2p (Or.inl ⟨?hwx2p, ?hyx2p⟩) hS ?restx2p
    case h1x2p => (simp only [List.getElem?_toArray, List.getElem?_cons_succ, List.getElem?_cons_zero]; rfl)
    case hsx2p => kernel_rfl
    case hfx2p => kernel_rfl
    case hrx2p => kernel_rfl
    case hQx2p => exact fun _ _ _ h => h
    case hwx2p => rfl
    case hyx2p =>
      intro W hW
      go_simp
      try with_reducible rfl
    simp only [Act.put, List.setIfInBounds_toArray, List.set_cons_succ, List.set_cons_zero]
    refine wpAnyH_ready (rs := [1]) (by kernel_rfl) (by simp) ?_
    refine' AllReadyH.cons ?hoc1p (fun K hK => ?stc1p) AllReadyH.nil
    case hoc1p => (simp only [List.getElem?_toArray, List.getElem?_cons_succ, List.getElem?_cons_zero]; rfl)
    go_simp
    refine (RN.out _ H1.out _ _ ((hS.block _ (blk_lt G01.out)).trans G01.out)).mono ?_
    rintro e wa ⟨ga, rfl, ra, hb⟩
    go_wp2_with fail
    refine hK.out _ _ (hS.trans (hb.mono hS.size)) (fun hHeld => ?_)
    clear hK K
    try simp only [Act.put, List.setIfInBounds_toArray, List.set_cons_succ, List.set_cons_zero]
    have RA := Lib.hid ra
    clear ra
    clear hS hb
    have hS := hHeld
    clear hHeld
    have B2 := Lib.hid hS
    refine moreS (S' := fun W => Below wa.heap.size wa W) (fun W hW => B2.out.trans (hW.mono B2.out.size)) _ _ _ _ ?_
    clear hS
    have hS := Below.refl wa.heap.size wa
    refine wpAnyH_ready (rs := [3]) (by kernel_rfl) (by simp) ?_
    refine' AllReadyH.cons ?hoc3p (fun K hK => ?stc3p) AllReadyH.nil
    case hoc3p => (simp only [List.getElem?_toArray, List.getElem?_cons_succ, List.getElem?_cons_zero]; rfl)
    go_simp
    refine (RN.out _ H2.out _ _ (((B2.out.trans (hS.mono B2.out.size)).block _ (blk_lt G11.out)).trans G11.out)).mono ?_
    rintro e wb ⟨gb, rfl, rb, hb⟩
    go_wp2_with fail
    refine hK.out _ _ (hS.trans (hb.mono hS.size)) (fun hHeld => ?_)
    clear hK K
    try simp only [Act.put, List.setIfInBounds_toArray, List.set_cons_succ, List.set_cons_zero]
    have RB := Lib.hid rb
    have RA2 := Lib.hid (RA.out.below hb)
    clear rb
    clear hS hb
    have hS := hHeld
    clear hHeld
    refine' wpAnyH_take (i := 4) ?h1x4p ?hsx4p ?hfx4p ?hrx4p ?hQx4p (Or.inl ⟨?hwx4p, ?hyx4p⟩) hS ?restx4p
    case h1x4p => (simp only [List.getElem?_toArray, List.getElem?_cons_succ, List.getElem?_cons_zero]; rfl)
    case hsx4p => kernel_rfl
    case hfx4p => kernel_rfl
    case hrx4p => kernel_rfl
    case hQx4p => exact fun _ _ _ h => h
    case hwx4p => rfl
    case hyx4p =>
      intro W hW
      go_simp
      try with_reducible rfl
    simp only [Act.put, List.setIfInBounds_toArray, List.set_cons_succ, List.set_cons_zero]
    refine' wpAnyH_take (i := 5) ?h1x5p ?hsx5p ?hfx5p ?hrx5p ?hQx5p (Or.inl ⟨?hwx5p, ?hyx5p⟩) hS ?restx5p
    case h1x5p => (simp only [List.getElem?_toArray, List.getElem?_cons_succ, List.getElem?_cons_zero]; rfl)
    case hsx5p => kernel_rfl
    case hfx5p => kernel_rfl
    case hrx5p => kernel_rfl
    case hQx5p => exact fun _ _ _ h => h
    case hwx5p => rfl
    case hyx5p =>
      intro W hW
      go_simp
      try with_reducible rfl
    simp only [Act.put, List.setIfInBounds_toArray, List.set_cons_succ, List.set_cons_zero]
    refine wpAnyH_done (by kernel_rfl) ?_ _
    have B3 := Lib.hid (B2.out.trans (hS.mono B2.out.size))
    have BW := Lib.hid (B1.out.trans (B3.out.mono B1.out.size))
    have X2 := Lib.hid (X1.out.below B3.out)
    have G22 := Lib.hid ((B3.out.block _ (blk_lt G21.out)).trans G21.out)
    have SE2 := Lib.hid (SE1.out.below B3.out)
    clear hS B1 B2 B3 X1 G01 G11 G21 SE1 RA RN
    have RB3 := Lib.hid RB.out
    have RA3 := Lib.hid RA2.out
    have X3 := Lib.hid X2.out
    have G3 := Lib.hid G22.out
    have SE3 := Lib.hid SE2.out
    have BW3 := Lib.hid BW.out
    clear RB RA2 X2 G22 SE2 BW
    go_wp2_with (refine wpList_load_row rfl 37 (.tmp 6) rfl (w.heap.size + 1 + 1) rfl 37 (ncells tw) (0, 0) _ G3.out Try.underlying37 rfl (i47 HT.out.1) ?_)
    refine (T1.out _ _ X3.out SE3.out).mono ?_
    rintro e w4 ⟨xp, lp, cp, rfl, hp, hb⟩
    have P4 := Lib.hid hp
    have X4 := Lib.hid (X3.out.below hb)
    have RA4 := Lib.hid (RA3.out.below hb)
    have RB4 := Lib.hid (RB3.out.below hb)
    have G4 := Lib.hid ((hb.block _ (blk_lt G3.out)).trans G3.out)
    have SE4 := Lib.hid (SE3.out.below hb)
    have BW4 := Lib.hid (BW3.out.trans (hb.mono BW3.out.size))
    clear hp hb X3 RA3 RB3 G3 SE3 BW3
    go_wp2_with fail
    refine (S1.out _ _ _ _ RA4.out RB4.out G4.out SE4.out).mono ?_
    rintro e w5 ⟨xq, lq, cq, rfl, hp, hb⟩
    have Q5 := Lib.hid hp
    have P5 := Lib.hid (P4.out.below hb)
    have X5 := Lib.hid (X4.out.below hb)
    have RA5 := Lib.hid (RA4.out.below hb)
    have RB5 := Lib.hid (RB4.out.below hb)
    have G5 := Lib.hid ((hb.block _ (blk_lt G4.out)).trans G4.out)
    have SE5 := Lib.hid (SE4.out.below hb)
    have BW5 := Lib.hid (BW4.out.trans (hb.mono BW4.out.size))
    clear hp hb X4 RA4 RB4 G4 SE4 BW4 P4
    go_wp2_with (refine wpList_load_row rfl 37 (.tmp 6) rfl (w.heap.size + 1 + 1) rfl 37 (ncells tw) (0, 0) _ G5.out Try.underlying37 rfl (i47 HT.out.1) ?_)
    refine (T2.out _ _ X5.out SE5.out).mono ?_
    rintro e w6 ⟨xu, lu, cu, rfl, hp, hb⟩
    have U6 := Lib.hid hp
    have P6 := Lib.hid (P5.out.below hb)
    have Q6 := Lib.hid (Q5.out.below hb)
    have X6 := Lib.hid (X5.out.below hb)
    have RA6 := Lib.hid (RA5.out.below hb)
    have RB6 := Lib.hid (RB5.out.below hb)
    have G6 := Lib.hid ((hb.block _ (blk_lt G5.out)).trans G5.out)
    have SE6 := Lib.hid (SE5.out.below hb)
    have BW6 := Lib.hid (BW5.out.trans (hb.mono BW5.out.size))
    clear hp hb X5 RA5 RB5 G5 SE5 BW5 P5 Q5
    go_wp2_with fail
    refine (S2.out _ _ _ _ RA6.out RB6.out G6.out SE6.out).mono ?_
    rintro e w7 ⟨xv, lv, cv, rfl, hp, hb⟩
    have V7 := Lib.hid hp
    have P7 := Lib.hid (P6.out.below hb)
    have Q7 := Lib.hid (Q6.out.below hb)
    have U7 := Lib.hid (U6.out.below hb)
    have X7 := Lib.hid (X6.out.below hb)
    have RA7 := Lib.hid (RA6.out.below hb)
    have RB7 := Lib.hid (RB6.out.below hb)
    have G7 := Lib.hid ((hb.block _ (blk_lt G6.out)).trans G6.out)
    have SE7 := Lib.hid (SE6.out.below hb)
    have BW7 := Lib.hid (BW6.out.trans (hb.mono BW6.out.size))
    clear hp hb X6 RA6 RB6 G6 SE6 BW6 P6 Q6 U6 X7 RA7 RB7 SE7
    go_wp2_with (refine wpList_load_row rfl 37 (.tmp 6) rfl (w.heap.size + 1 + 1) rfl 37 (ncells tw) (0, 0) _ G7.out Try.underlying37 rfl (i47 HT.out.1) ?_)
    refine (turnXNil tw _ _).mono ?_
    rintro e w8 ⟨rfl, hb⟩
    have V8 := Lib.hid (V7.out.below hb)
    have P8 := Lib.hid (P7.out.below hb)
    have Q8 := Lib.hid (Q7.out.below hb)
    have U8 := Lib.hid (U7.out.below hb)
    have G8 := Lib.hid ((hb.block _ (blk_lt G7.out)).trans G7.out)
    have BW8 := Lib.hid (BW7.out.trans (hb.mono BW7.out.size))
    clear hb V7 P7 Q7 U7 G7 BW7
    go_wp2_with (refine wpList_load_row rfl 37 (.tmp 6) rfl (w.heap.size + 1 + 1) rfl 37 (ncells tw) (0, 0) _ G8.out Try.underlying37 rfl (i47 HT.out.1) ?_)
    refine (backXNil tw _ _).mono ?_
    rintro e w9 ⟨rfl, hb⟩
    have V9 := Lib.hid (V8.out.below hb)
    have P9 := Lib.hid (P8.out.below hb)
    have Q9 := Lib.hid (Q8.out.below hb)
    have U9 := Lib.hid (U8.out.below hb)
    have BW9 := Lib.hid (BW8.out.trans (hb.mono BW8.out.size))
    clear hb V8 P8 Q8 U8 G8 BW8
    go_wp2_with fail
    refine (alive6 _).mono ?_
    rintro e w10 ⟨rfl, hb⟩
    have cp1 := (P9.out.below hb).str
    have cq1 := (Q9.out.below hb).str
    have cu1 := (U9.out.below hb).str
    have cv1 := (V9.out.below hb).str
    have BW10 := Lib.hid (BW9.out.trans (hb.mono BW9.out.size))
    have sq1 := SQ1.out
    have sq2 := SQ2.out
    have ec1 := EC.out
    clear hb V9 P9 Q9 U9 BW9
    generalize strN A = sA at *
    generalize strN B = sB at *
    go_wp2_with fail
    go_ret
    exact ⟨rfl, BW10.out⟩
  · have hi1 : (100 : Int) < (L : Int) := by omega
    have hi3 : ¬ (L : Int) ≤ 65536 := by omega
    clear hz
    go_enter Try.func9, Try.ntmps9
    go_wp2_with (first
      | (refine wpList_load_row rfl 23 (.tmp 4) rfl w.heap.size rfl 23 (ncells k1) (0, 0) _ (by rw [← HW0.out]; exact G0.out) Try.underlying23 rfl (i23 H1.out.1) ?_)
      | (refine wpList_load_row rfl 23 (.tmp 5) rfl (w.heap.size + 1) rfl 23 (ncells k2) (0, 0) _ (by rw [← HW0.out]; exact G1.out) Try.underlying23 rfl (i23 H2.out.1) ?_))
    rw [← HW0.out]
    refine (NX.out _).mono ?_
    rintro e w1 ⟨g, rfl, hx, hb⟩
    have X1 := Lib.hid hx
    have B1 := Lib.hid (HB.out.trans (hb.mono HB.out.size))
    have G01 := Lib.hid ((hb.block _ (blk_lt G0.out)).trans G0.out)
    have G11 := Lib.hid ((hb.block _ (blk_lt G1.out)).trans G1.out)
    have G21 := Lib.hid ((hb.block _ (blk_lt G2.out)).trans G2.out)
    have SE1 := Lib.hid (SE.out.below hb)
    clear hx hb HB G0 G1 G2 SE HW0
    clear W0
    go_wp2_with fail
    refine wp_region_held_drew (S := fun W => Below w1.heap.size w1 W) (by kernel_rfl) (Below.refl _ _).drew (fun hS => ?_)
    refine' wpAnyH_take (i := 0) ?h1x0n ?hsx0n ?hfx0n ?hrx0n ?hQx0n (Or.inl ⟨?hwx0n, ?hyx0n⟩) hS ?restx0n
    case h1x0n => (simp only [List.getElem?_toArray, List.getElem?_cons_zero]; rfl)
    case hsx0n => kernel_rfl
    case hfx0n => kernel_rfl
    case hrx0n => kernel_rfl
    case hQx0n => exact fun _ _ _ h => h
    case hwx0n => rfl
    case hyx0n =>
      intro W hW
      go_simp
      try with_reducible rfl
    simp only [Act.put, List.setIfInBounds_toArray, List.set_cons_succ, List.set_cons_zero]
    refine' wpAnyH_take (i := 2) ?h1x2n ?hsx2n ?hfx2n ?hrx2n ?hQx2n (Or.inl ⟨?hwx2n, ?hyx2n⟩) hS ?restx2n
    case h1x2n => (simp only [List.getElem?_toArray, List.getElem?_cons_succ, List.getElem?_cons_zero]; rfl)
    case hsx2n => kernel_rfl
    case hfx2n => kernel_rfl
    case hrx2n => kernel_rfl
    case hQx2n => exact fun _ _ _ h => h
    case hwx2n => rfl
    case hyx2n =>
      intro W hW
      go_simp
      try with_reducible rfl
    simp only [Act.put, List.setIfInBounds_toArray, List.set_cons_succ, List.set_cons_zero]
    refine wpAnyH_ready (rs := [1]) (by kernel_rfl) (by simp) ?_
    refine' AllReadyH.cons ?hoc1n (fun K hK => ?stc1n) AllReadyH.nil
    case hoc1n => (simp only [List.getElem?_toArray, List.getElem?_cons_succ, List.getElem?_cons_zero]; rfl)
    go_simp
    refine (RN.out _ H1.out _ _ ((hS.block _ (blk_lt G01.out)).trans G01.out)).mono ?_
    rintro e wa ⟨ga, rfl, ra, hb⟩
    go_wp2_with fail
    refine hK.out _ _ (hS.trans (hb.mono hS.size)) (fun hHeld => ?_)
    clear hK K
    try simp only [Act.put, List.setIfInBounds_toArray, List.set_cons_succ, List.set_cons_zero]
    have RA := Lib.hid ra
    clear ra
    clear hS hb
    have hS := hHeld
    clear hHeld
    have B2 := Lib.hid hS
    refine moreS (S' := fun W => Below wa.heap.size wa W) (fun W hW => B2.out.trans (hW.mono B2.out.size)) _ _ _ _ ?_
    clear hS
    have hS := Below.refl wa.heap.size wa
    refine wpAnyH_ready (rs := [3]) (by kernel_rfl) (by simp) ?_
    refine' AllReadyH.cons ?hoc3n (fun K hK => ?stc3n) AllReadyH.nil
    case hoc3n => (simp only [List.getElem?_toArray, List.getElem?_cons_succ, List.getElem?_cons_zero]; rfl)
    go_simp
    refine (RN.out _ H2.out _ _ (((B2.out.trans (hS.mono B2.out.size)).block _ (blk_lt G11.out)).trans G11.out)).mono ?_
    rintro e wb ⟨gb, rfl, rb, hb⟩
    go_wp2_with fail
    refine hK.out _ _ (hS.trans (hb.mono hS.size)) (fun hHeld => ?_)
    clear hK K
    try simp only [Act.put, List.setIfInBounds_toArray, List.set_cons_succ, List.set_cons_zero]
    have RB := Lib.hid rb
    have RA2 := Lib.hid (RA.out.below hb)
    clear rb
    clear hS hb
    have hS := hHeld
    clear hHeld
    refine' wpAnyH_take (i := 4) ?h1x4n ?hsx4n ?hfx4n ?hrx4n ?hQx4n (Or.inl ⟨?hwx4n, ?hyx4n⟩) hS ?restx4n
    case h1x4n => (simp only [List.getElem?_toArray, List.getElem?_cons_succ, List.getElem?_cons_zero]; rfl)
    case hsx4n => kernel_rfl
    case hfx4n => kernel_rfl
    case hrx4n => kernel_rfl
    case hQx4n => exact fun _ _ _ h => h
    case hwx4n => rfl
    case hyx4n =>
      intro W hW
      go_simp
      try with_reducible rfl
    simp only [Act.put, List.setIfInBounds_toArray, List.set_cons_succ, List.set_cons_zero]
    refine' wpAnyH_take (i := 5) ?h1x5n ?hsx5n ?hfx5n ?hrx5n ?hQx5n (Or.inl ⟨?hwx5n, ?hyx5n⟩) hS ?restx5n
    case h1x5n => (simp only [List.getElem?_toArray, List.getElem?_cons_succ, List.getElem?_cons_zero]; rfl)
    case hsx5n => kernel_rfl
    case hfx5n => kernel_rfl
    case hrx5n => kernel_rfl
    case hQx5n => exact fun _ _ _ h => h
    case hwx5n => rfl
    case hyx5n =>
      intro W hW
      go_simp
      try with_reducible rfl
    simp only [Act.put, List.setIfInBounds_toArray, List.set_cons_succ, List.set_cons_zero]
    refine wpAnyH_done (by kernel_rfl) ?_ _
    have B3 := Lib.hid (B2.out.trans (hS.mono B2.out.size))
    have BW := Lib.hid (B1.out.trans (B3.out.mono B1.out.size))
    have X2 := Lib.hid (X1.out.below B3.out)
    have G22 := Lib.hid ((B3.out.block _ (blk_lt G21.out)).trans G21.out)
    have SE2 := Lib.hid (SE1.out.below B3.out)
    clear hS B1 B2 B3 X1 G01 G11 G21 SE1 RA RN
    have RB3 := Lib.hid RB.out
    have RA3 := Lib.hid RA2.out
    have X3 := Lib.hid X2.out
    have G3 := Lib.hid G22.out
    have SE3 := Lib.hid SE2.out
    have BW3 := Lib.hid BW.out
    clear RB RA2 X2 G22 SE2 BW
    go_wp2_with (refine wpList_load_row rfl 37 (.tmp 6) rfl (w.heap.size + 1 + 1) rfl 37 (ncells tw) (0, 0) _ G3.out Try.underlying37 rfl (i47 HT.out.1) ?_)
    refine (T1.out _ _ X3.out SE3.out).mono ?_
    rintro e w4 ⟨xp, lp, cp, rfl, hp, hb⟩
    have P4 := Lib.hid hp
    have X4 := Lib.hid (X3.out.below hb)
    have RA4 := Lib.hid (RA3.out.below hb)
    have RB4 := Lib.hid (RB3.out.below hb)
    have G4 := Lib.hid ((hb.block _ (blk_lt G3.out)).trans G3.out)
    have SE4 := Lib.hid (SE3.out.below hb)
    have BW4 := Lib.hid (BW3.out.trans (hb.mono BW3.out.size))
    clear hp hb X3 RA3 RB3 G3 SE3 BW3
    go_wp2_with fail
    refine (S1.out _ _ _ _ RA4.out RB4.out G4.out SE4.out).mono ?_
    rintro e w5 ⟨xq, lq, cq, rfl, hp, hb⟩
    have Q5 := Lib.hid hp
    have P5 := Lib.hid (P4.out.below hb)
    have X5 := Lib.hid (X4.out.below hb)
    have RA5 := Lib.hid (RA4.out.below hb)
    have RB5 := Lib.hid (RB4.out.below hb)
    have G5 := Lib.hid ((hb.block _ (blk_lt G4.out)).trans G4.out)
    have SE5 := Lib.hid (SE4.out.below hb)
    have BW5 := Lib.hid (BW4.out.trans (hb.mono BW4.out.size))
    clear hp hb X4 RA4 RB4 G4 SE4 BW4 P4
    go_wp2_with (refine wpList_load_row rfl 37 (.tmp 6) rfl (w.heap.size + 1 + 1) rfl 37 (ncells tw) (0, 0) _ G5.out Try.underlying37 rfl (i47 HT.out.1) ?_)
    refine (T2.out _ _ X5.out SE5.out).mono ?_
    rintro e w6 ⟨xu, lu, cu, rfl, hp, hb⟩
    have U6 := Lib.hid hp
    have P6 := Lib.hid (P5.out.below hb)
    have Q6 := Lib.hid (Q5.out.below hb)
    have X6 := Lib.hid (X5.out.below hb)
    have RA6 := Lib.hid (RA5.out.below hb)
    have RB6 := Lib.hid (RB5.out.below hb)
    have G6 := Lib.hid ((hb.block _ (blk_lt G5.out)).trans G5.out)
    have SE6 := Lib.hid (SE5.out.below hb)
    have BW6 := Lib.hid (BW5.out.trans (hb.mono BW5.out.size))
    clear hp hb X5 RA5 RB5 G5 SE5 BW5 P5 Q5
    go_wp2_with fail
    refine (S2.out _ _ _ _ RA6.out RB6.out G6.out SE6.out).mono ?_
    rintro e w7 ⟨xv, lv, cv, rfl, hp, hb⟩
    have V7 := Lib.hid hp
    have P7 := Lib.hid (P6.out.below hb)
    have Q7 := Lib.hid (Q6.out.below hb)
    have U7 := Lib.hid (U6.out.below hb)
    have X7 := Lib.hid (X6.out.below hb)
    have RA7 := Lib.hid (RA6.out.below hb)
    have RB7 := Lib.hid (RB6.out.below hb)
    have G7 := Lib.hid ((hb.block _ (blk_lt G6.out)).trans G6.out)
    have SE7 := Lib.hid (SE6.out.below hb)
    have BW7 := Lib.hid (BW6.out.trans (hb.mono BW6.out.size))
    clear hp hb X6 RA6 RB6 G6 SE6 BW6 P6 Q6 U6 X7 RA7 RB7 SE7
    go_wp2_with (refine wpList_load_row rfl 37 (.tmp 6) rfl (w.heap.size + 1 + 1) rfl 37 (ncells tw) (0, 0) _ G7.out Try.underlying37 rfl (i47 HT.out.1) ?_)
    refine (turnXNil tw _ _).mono ?_
    rintro e w8 ⟨rfl, hb⟩
    have V8 := Lib.hid (V7.out.below hb)
    have P8 := Lib.hid (P7.out.below hb)
    have Q8 := Lib.hid (Q7.out.below hb)
    have U8 := Lib.hid (U7.out.below hb)
    have G8 := Lib.hid ((hb.block _ (blk_lt G7.out)).trans G7.out)
    have BW8 := Lib.hid (BW7.out.trans (hb.mono BW7.out.size))
    clear hb V7 P7 Q7 U7 G7 BW7
    go_wp2_with (refine wpList_load_row rfl 37 (.tmp 6) rfl (w.heap.size + 1 + 1) rfl 37 (ncells tw) (0, 0) _ G8.out Try.underlying37 rfl (i47 HT.out.1) ?_)
    refine (backXNil tw _ _).mono ?_
    rintro e w9 ⟨rfl, hb⟩
    have V9 := Lib.hid (V8.out.below hb)
    have P9 := Lib.hid (P8.out.below hb)
    have Q9 := Lib.hid (Q8.out.below hb)
    have U9 := Lib.hid (U8.out.below hb)
    have BW9 := Lib.hid (BW8.out.trans (hb.mono BW8.out.size))
    clear hb V8 P8 Q8 U8 G8 BW8
    go_wp2_with fail
    refine (alive6 _).mono ?_
    rintro e w10 ⟨rfl, hb⟩
    have cp1 := (P9.out.below hb).str
    have cq1 := (Q9.out.below hb).str
    have cu1 := (U9.out.below hb).str
    have cv1 := (V9.out.below hb).str
    have BW10 := Lib.hid (BW9.out.trans (hb.mono BW9.out.size))
    have sq1 := SQ1.out
    have sq2 := SQ2.out
    have ec1 := EC.out
    clear hb V9 P9 Q9 U9 BW9
    generalize strN A = sA at *
    generalize strN B = sB at *
    go_wp2_with fail
    go_ret
    exact ⟨rfl, BW10.out⟩
set_option maxRecDepth 100000 in
set_option maxHeartbeats 8000000 in
theorem big (k1 k2 tw : List Nat) (x : Option Addr) (L cap : Nat) (w : World) (hm : L ≤ 9223372036854775807) (hz : (100 < L ∧ L ≤ 65536) ∨ 65556 < L) :
    Calls Try.prog 9 #[.agg (ncells k1), .agg (ncells k2), .agg (ncells tw), .slice x L cap] w fun e w' => e = .returned (.bool true) ∧ Below w.heap.size w w' := by
  have hi1 : (100 : Int) < (L : Int) := by omega
  have HB : Hid (Below w.heap.size w (((w.alloc (.cells (ncells k1) 23)).alloc (.cells (ncells k2) 23)).alloc (.cells (ncells tw) 37))) := (((Below.refl _ _).alloc (Nat.le_refl _) _).alloc (by simp) _).alloc (by simp; omega) _
  by_cases h : L ≤ 65536
  · have hi3 : (L : Int) ≤ 65536 := by omega
    clear hz h
    go_enter Try.func9, Try.ntmps9
    go_wp2_with fail
    refine (alive6 _).mono ?_
    rintro e w1 ⟨rfl, hb⟩
    go_wp2_with fail
    go_ret
    exact ⟨rfl, HB.out.trans (hb.mono HB.out.size)⟩
  · have hi3 : ¬ (L : Int) ≤ 65536 := by omega
    have hi4 : (65556 : Int) < (L : Int) := by omega
    clear hz h
    go_enter Try.func9, Try.ntmps9
    go_wp2_with fail
    refine (alive6 _).mono ?_
    rintro e w1 ⟨rfl, hb⟩
    go_wp2_with fail
    go_ret
    exact ⟨rfl, HB.out.trans (hb.mono HB.out.size)⟩
theorem walk (k1 k2 tw b : List Nat) (v : Value) (hk1 : Bts 32 k1) (hk2 : Bts 32 k2) (htw : Bts 16 tw) (w : World) (hs : Sees w v b) :
    Calls Try.prog 9 #[.agg (ncells k1), .agg (ncells k2), .agg (ncells tw), v] w fun e w' => e = .returned (.bool true) ∧ Below w.heap.size w w' := by
  obtain ⟨x, cap, rfl, hm⟩ := hs.form
  obtain ⟨L, hL⟩ : ∃ L, L = b.length := ⟨_, rfl⟩
  rw [← hL] at hs hm ⊢
  by_cases hz : (100 < L ∧ L ≤ 65536) ∨ 65556 < L
  · exact big k1 k2 tw x L cap w hm hz
  · by_cases hg : L = 0 ∨ L % 16 ≠ 0 ∨ 65536 < L
    · refine mid k1 k2 tw b [] [] 3 hk1 hk2 htw x L cap w hs hm (by omega) (fun g W h1 _ => ?_) (fun g1 g2 q W _ _ _ _ => ?_) (fun g W h1 _ => ?_) (fun g1 g2 q W _ _ _ _ => ?_)
      · refine (turnXNo _ _ tw htw g L x cap W h1 hm hg).mono ?_
        rintro e w' ⟨rfl, hb⟩
        exact ⟨_, _, _, rfl, sees_nil _, hb⟩
      · refine (refSectorNo _ _ _ false x L cap hm hg W).mono ?_
        rintro e w' ⟨rfl, rfl⟩
        exact ⟨_, _, _, rfl, sees_nil _, Below.refl _ _⟩
      · refine (backXNo _ _ tw htw g L x cap W h1 hm hg).mono ?_
        rintro e w' ⟨rfl, hb⟩
        exact ⟨_, _, _, rfl, sees_nil _, hb⟩
      · refine (refSectorNo _ _ _ true x L cap hm hg W).mono ?_
        rintro e w' ⟨rfl, rfl⟩
        exact ⟨_, _, _, rfl, sees_nil _, Below.refl _ _⟩
    · obtain ⟨n, hn⟩ : ∃ n, L = 16 * n := ⟨L / 16, by omega⟩
      have hM : Bts 16 (enc k2 tw) := enc_bts hk2 htw
      have yE : Byt (sct (enc k1) (enc k2 tw) b n) := sct_bts (fun _ h => enc_bts hk1 h) hM hs.1 n
      have yD : Byt (sct (dec k1) (enc k2 tw) b n) := sct_bts (fun _ h => dec_bts hk1 h) hM hs.1 n
      have lE : L = (sct (enc k1) (enc k2 tw) b n).length := by rw [sct_len, hn]
      have lD : L = (sct (dec k1) (enc k2 tw) b n).length := by rw [sct_len, hn]
      have ml : L ≤ maxLen := by unfold maxLen; omega
      have ST : ∀ (W : World) (q : Nat), W.heap[q]? = some (.cells (ncells tw) 37 (0, 0)) → Sees W (.slice (some ⟨q, 0, none⟩) 16 16) tw := fun W q h => sees_row W q tw htw.2 (by rw [htw.1]; simp [maxLen]) h 16 htw.1.symm
      refine mid k1 k2 tw b (sct (enc k1) (enc k2 tw) b n) (sct (dec k1) (enc k2 tw) b n) 0 hk1 hk2 htw x L cap w hs hm (by omega) (fun g W h1 h2 => ?_) (fun g1 g2 q W h1 h2 h3 h4 => ?_) (fun g W h1 h2 => ?_) (fun g1 g2 q W h1 h2 h3 h4 => ?_)
      · refine (turnX k1 k2 tw b hk1 hk2 htw g L n x cap W h1 h2 hL hn (by omega) (by omega)).mono ?_
        rintro e w' ⟨q, rfl, _, hq, hb⟩
        exact ⟨_, _, _, rfl, sees_row w' q _ yE (by rw [← lE]; exact ml) hq L lE, hb⟩
      · refine (refSector k1 k2 tw b hk1 hk2 htw g1 g2 L n false _ 16 x cap W h1 h2 (ST W q h3) h4 hL hn (by omega) (by omega)).mono ?_
        rintro e w' ⟨q', c', rfl, hq, hb⟩
        exact ⟨_, _, _, rfl, hq, hb⟩
      · refine (backX k1 k2 tw b hk1 hk2 htw g L n x cap W h1 h2 hL hn (by omega) (by omega)).mono ?_
        rintro e w' ⟨q, rfl, _, hq, hb⟩
        exact ⟨_, _, _, rfl, sees_row w' q _ yD (by rw [← lD]; exact ml) hq L lD, hb⟩
      · refine (refSector k1 k2 tw b hk1 hk2 htw g1 g2 L n true _ 16 x cap W h1 h2 (ST W q h3) h4 hL hn (by omega) (by omega)).mono ?_
        rintro e w' ⟨q', c', rfl, hq, hb⟩
        exact ⟨_, _, _, rfl, hq, hb⟩

set_option maxRecDepth 100000 in
theorem lifted (os : Os) (started : os.Started) (H : Type) (enc : TypeId × Value → H) :
    ReturnsInHanded {} Try.checked os 9 .any (Rows.xtsSectorsSpec.pre6 enc Try.prog Try.f9 Rows.xtsSectorsRow.domain false) (Rows.xtsSectorsSpec.post enc Try.prog Try.f9 false true false false) := by
  refine returnsInHanded_of_change (C := Try.checked) own started (by kernel_rfl) Try.func9
    (ChangeSpec.witness6 (enc := enc) (C := Try.checked) false ⟨#[], #[.agg (Array.replicate 32 (.int .u8 0)), .agg (Array.replicate 32 (.int .u8 0)), .agg (Array.replicate 16 (.int .u8 0)), .slice none 0 0], []⟩ 8 (by kernel_rfl) (by kernel_rfl) (by kernel_rfl) (by kernel_rfl)) ?_
  intro W base args ds gs before hval0 hW hcnd _
  have hval : ∀ (j : Nat) t v, Try.f9.params[j]? = some t → args[j]? = some v → Value.okWide Try.prog W .any base t v := hval0
  have hW' := hW
  obtain ⟨p, q, hA0, hV, rfl, hfz, hnd⟩ := hW
  have hA : DataW.TrodAll enc Try.prog W 0 (fun _ => true) true Try.f9.params.toList args.toList ds p := hA0
  rw [Try.params9] at hA hval
  obtain ⟨v0, vs0, d0, ds0, p0, q0, hargs, rfl, rfl, h0, r0⟩ := trodAll_cons hA
  obtain ⟨v1, vs1, d1, ds1, p1, q1, rfl, rfl, rfl, h1, r1⟩ := trodAll_cons r0
  obtain ⟨v2, vs2, d2, ds2, p2, q2, rfl, rfl, rfl, h2, r2⟩ := trodAll_cons r1
  obtain ⟨v3, vs3, d3, ds3, p3, q3, rfl, rfl, rfl, h3, r3⟩ := trodAll_cons r2
  obtain ⟨rfl, rfl, rfl⟩ := trodAll_nil r3
  obtain rfl : args = #[v0, v1, v2, v3] := by cases args; simp_all
  obtain ⟨rfl, rfl⟩ := trodVars_none hV
  obtain ⟨x0, b0, rfl⟩ := open_arr u23 cellsOf23 (hval 0 23 v0 rfl rfl) h0
  obtain ⟨x1, b1, rfl⟩ := open_arr u23 cellsOf23 (hval 1 23 v1 rfl rfl) h1
  obtain ⟨x2, b2, rfl⟩ := open_arr u37 cellsOf37 (hval 2 37 v2 rfl rfl) h2
  obtain ⟨x3, s3⟩ := open_sees (hval 3 28 v3 rfl rfl) h3
  refine (walk x0 x1 x2 x3 v3 b0 b1 b2 W s3).mono fun e W' ⟨he, hb⟩ => ?_
  subst he
  exact ⟨_, rfl, law_post hW' rfl rfl rfl (by kernel_rfl) hb⟩

/-- The statement. -/
theorem proved : Rows.XtsSectorsSaid :=
  OpenClaim.holds_of_wide 9 Try.f9 rfl rfl rfl rfl rfl rfl rfl ⟨rfl, rfl, rfl, rfl, rfl⟩ rfl rfl rfl rfl rfl (by kernel_rfl) Try.func9 (by kernel_rfl)
    (of_decide_eq_true (by kernel_rfl)) (by unfold Func.isWrapper; first | (rw [if_pos (by decide +kernel)]; kernel_rfl) | (rw [if_neg (by decide +kernel)]; exact ⟨rfl, rfl⟩))
    (fun os started H enc _ => lifted os started H enc)
#print axioms proved
end Go.Proofs.Ytekffhopmicalaa.xtsSectors
