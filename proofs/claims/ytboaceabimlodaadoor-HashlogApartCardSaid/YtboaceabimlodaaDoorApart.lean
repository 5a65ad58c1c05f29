/-
  For all texts the law HashlogApart of package casematelaw08 returns true, and they read afterwards as before: two texts that a log summed to one sum are the same, or the log has a clash. Condition: the two tables hold what their initialisers lay (the row's premise).
-/
import Derived.Test.YtboaceabimlodaaDoorLF
import Derived.Test.YtboaceabimlodaaDoorRefF
namespace Go.Proofs.YtboaceabimlodaaDoor.hashlogApart
open Go.ChangeShapes Go.WideShapes Go.ChangeAt Go.RowKit
theorem form_m {w : World} {v : Value} {xss : List (List Int)} (h : SeesM w v xss) : ∃ x c, v = .slice x xss.length c ∧ xss.length ≤ 9223372036854775807 ∧ ∀ i, i < xss.length → ∃ b o u, x = some ⟨b, o, none⟩ ∧ w.cell? ⟨b, o + i, none⟩ = some u ∧ Sees w u (xss.getD i []) := by
  rcases h with ⟨x, c, rfl, rfl⟩ | ⟨b, o, c, rfl, _, h1, _, h2⟩
  · exact ⟨x, c, rfl, by simp, fun i hi => by simp at hi⟩
  · refine ⟨_, c, rfl, by unfold maxLen at h1; omega, fun i hi => ?_⟩
    obtain ⟨u, e1, e2⟩ := h2 i hi
    exact ⟨b, o, u, rfl, e1, e2⟩
set_option maxRecDepth 100000 in
set_option maxHeartbeats 4000000 in
theorem walkBig (xl xa xb : Option Addr) (n L M cl ca cb : Nat) (w : World) (hG : Glob w) (h : 40 < n ∨ 300 < L ∨ 300 < M) : Calls Tryd.prog 5 #[.slice xl n cl, .slice xa L ca, .slice xb M cb] w fun e w' => e = .returned (.bool true) ∧ Below w.heap.size w w' := by
  have AL := Lib.hid (alive8 w hG)
  by_cases h1 : (40 : Int) < (n : Int)
  · clear h hG
    go_enter Tryd.func5, Tryd.ntmps5
    go_wp2_with fail
    refine AL.out.mono ?_
    rintro e w1 ⟨rfl, hb⟩
    go_wp2_with fail
    go_ret
    exact ⟨rfl, hb⟩
  · by_cases h2 : (300 : Int) < (L : Int)
    · clear h hG
      go_enter Tryd.func5, Tryd.ntmps5
      go_wp2_with fail
      refine AL.out.mono ?_
      rintro e w1 ⟨rfl, hb⟩
      go_wp2_with fail
      go_ret
      exact ⟨rfl, hb⟩
    · have h3 : (300 : Int) < (M : Int) := by omega
      clear h hG
      go_enter Tryd.func5, Tryd.ntmps5
      go_wp2_with fail
      refine AL.out.mono ?_
      rintro e w1 ⟨rfl, hb⟩
      go_wp2_with fail
      go_ret
      exact ⟨rfl, hb⟩
set_option maxRecDepth 100000 in
set_option maxHeartbeats 8000000 in
theorem walk (xss : List (List Int)) (a b : List Int) (vl : Value) (xa xb : Option Addr) (L M ca cb : Nat) (w : World) (hG : Glob w) (hm : SeesM w vl xss) (ha : Sees w (.slice xa L ca) a) (hb : Sees w (.slice xb M cb) b) (hLa : L = a.length) (hMb : M = b.length) (hn40 : xss.length ≤ 40) (hl : L ≤ 300) (hm3 : M ≤ 300) :
    Calls Tryd.prog 5 #[vl, .slice xa L ca, .slice xb M cb] w fun e w' => e = .returned (.bool true) ∧ Below w.heap.size w w' := by
  obtain ⟨xl, cl, rfl, _, hrow⟩ := form_m hm
  obtain ⟨n, hn⟩ : ∃ n, n = xss.length := ⟨_, rfl⟩
  rw [← hn] at hrow hn40 ⊢
  have g1 : ¬ (40 : Int) < (n : Int) := by omega
  have g2 : ¬ (300 : Int) < (L : Int) := by omega
  have g3 : ¬ (300 : Int) < (M : Int) := by omega
  have z27 := zv27
  obtain ⟨Z27, hZ27⟩ : ∃ Z, Z = bcells (List.replicate 32 0) := ⟨_, rfl⟩
  rw [← hZ27] at z27
  have lA : (sha a).length = 32 := sha_len _ ha.1
  have lB : (sha b).length = 32 := sha_len _ hb.1
  have iA : Hid ((Tryd.prog.info? 31).map (·.size) = some (bcells (sha a)).size) := by show _ = _; rw [i27, bsize, lA]
  have zA : Hid (Z27.size = (bcells (sha a)).size) := by show _ = _; rw [hZ27, bsize, bsize, lA, List.length_replicate]
  have oA := Lib.hid (bone (sha a))
  have iB : Hid ((Tryd.prog.info? 31).map (·.size) = some (bcells (sha b)).size) := by show _ = _; rw [i27, bsize, lB]
  have zB : Hid (Z27.size = (bcells (sha b)).size) := by show _ = _; rw [hZ27, bsize, bsize, lB, List.length_replicate]
  have oB := Lib.hid (bone (sha b))
  have EQ0 := Lib.hid (fun (W : World) => eq27 (sha a) (sha b) (sha_byt _) (sha_byt _) lA lB W)
  have SQ0 := Lib.hid (str_eq ha.1 hb.1)
  have H2 : Hid (2 ≤ w.heap.size) := by have := hG.lt; show 2 ≤ _; omega
  have HGL := Lib.hid hG
  have HROW := Lib.hid hrow
  have HSA := Lib.hid ha
  have HSB := Lib.hid hb
  have LA : Hid (a.length ≤ 100000) := by show _ ≤ _; omega
  have LB : Hid (b.length ≤ 100000) := by show _ ≤ _; omega
  have BA := Lib.hid ha.1
  have BB := Lib.hid hb.1
  have HN40 := Lib.hid hn40
  have zn31 : Hid (∀ W : World, (W.alloc (.cells Z27 31)).heap[W.heap.size]? = some (.cells Z27 31 (0, 0))) := fun W => heap_alloc_new W _
  obtain ⟨A, hA⟩ : ∃ A, A = sha a := ⟨_, rfl⟩
  obtain ⟨B, hB⟩ : ∃ B, B = sha b := ⟨_, rfl⟩
  rw [← hA] at iA zA oA EQ0
  rw [← hB] at iB zB oB EQ0
  have HA := Lib.hid hA
  have HB := Lib.hid hB
  clear hG hm ha hb hLa hMb hl hm3 hrow hZ27 lA lB hn hA hB hn40
  go_enter Tryd.func5, Tryd.ntmps5
  go_wp2_with fail
  refine (newL _ H2.out).mono ?_
  rintro e w1 ⟨g, rfl, hl1, hge, hb1⟩
  have L1 := Lib.hid hl1
  have B1 := Lib.hid hb1
  clear hl1 hge hb1
  go_wp2_with fail
  go_loopw [8] (fun vi wr => ∃ (i : Nat) (S : Nat → Prop) (T : List (List Int)), i ≤ n ∧ vi = .int .i64 (i : Int) ∧ LG S wr g T ∧ (∀ q, S q → w.heap.size ≤ q) ∧ T.length ≤ i ∧ Below w.heap.size w wr) (fun vi _ => n - (intOf vi).toNat)
  case atStart => exact ⟨0, _, [], by omega, rfl, L1.out, fun q hq => hq.1, by simp, B1.out⟩
  case round =>
    clear L1 B1
    obtain ⟨i, S, T, hi, rfl, hlg, hS, hT, hbw⟩ := hrel
    have HLG := Lib.hid hlg
    have HS := Lib.hid hS
    have HT := Lib.hid hT
    have HBW := Lib.hid hbw
    clear hlg hS hT hbw
    by_cases hlt : i < n
    · have hii : (i : Int) < (n : Int) := by omega
      obtain ⟨bb, oo, u, rfl, hcu, hsu⟩ := HROW.out i hlt
      obtain ⟨x, hx⟩ : ∃ x, x = xss.getD i [] := ⟨_, rfl⟩
      rw [← hx] at hsu
      clear hx
      have cu : wr.cell? ⟨bb, oo + i, none⟩ = some u := (HBW.out.cell (p := ⟨bb, oo + i, none⟩) (World.block_lt_of_cell? w _ hcu)).trans hcu
      have HSU := Lib.hid hsu
      obtain ⟨xu, cuu, rfl, hmx⟩ := hsu.form
      have LBB := Lib.hid (World.block_lt_of_cell? w _ hcu)
      obtain ⟨lu, hlu⟩ : ∃ lu, lu = x.length := ⟨_, rfl⟩
      rw [← hlu] at HSU hmx cu
      have HLU := Lib.hid hlu
      have CU := Lib.hid cu
      clear hcu hlu hsu cu
      by_cases h3 : (300 : Int) < (lu : Int)
      · have AL := Lib.hid (alive8 wr (HGL.out.below HBW.out H2.out))
        have cu := CU.out
        go_wp2_with fail
        refine AL.out.mono ?_
        rintro e w2 ⟨rfl, hb2⟩
        have B2 := Lib.hid (HBW.out.trans (hb2.mono HBW.out.size))
        clear hb2 cu
        go_wp2_with fail
        go_ret
        exact ⟨rfl, B2.out⟩
      · have SM := Lib.hid (sumY S g T x (.slice xu lu cuu) wr HLG.out (fun q n0 e hs => by
          have h1 := HSU.out.lt q n0 e
          have h2 := HS.out q hs
          omega) (by have := HT.out; omega) (HGL.out.below HBW.out H2.out) HSU.out.1 (by have := HLU.out; omega) (HSU.out.below HBW.out))
        have cu := CU.out
        go_wp2_with fail
        refine SM.out.mono ?_
        rintro e w2 ⟨rfl, hl2, hm2⟩
        have B2 := Lib.hid (hm2.below HBW.out HBW.out.size HS.out)
        have L2 := Lib.hid hl2
        have N2 : Hid (∀ q, (S q ∨ wr.heap.size ≤ q ∧ q < w2.heap.size) → w.heap.size ≤ q) := fun q hq => by
          have := HBW.out.size
          rcases hq with hq | hq
          · exact HS.out q hq
          · omega
        have T2 : Hid ((addT T x).length ≤ i + 1) := by
          have := HT.out
          have h5 := addT_len T x
          show _ ≤ _
          rw [h5]
          split <;> omega
        clear hl2 hm2 cu
        go_wp2_with fail
        go_roundw
        case rel => exact ⟨i + 1, _, _, by omega, by go_num, L2.out, N2.out, T2.out, B2.out⟩
        case measure => simp [intOf]; omega
    · have hge : ¬ (i : Int) < (n : Int) := by omega
      have hT42 : Hid (T.length ≤ 40) := by have := HT.out; have := HN40.out; show _ ≤ _; omega
      have SMA := Lib.hid (sumY S g T a (.slice xa L ca) wr HLG.out (fun q n0 e hs => by
          have h1 := HSA.out.lt q n0 e
          have h2 := HS.out q hs
          omega) (by have := hT42.out; omega) (HGL.out.below HBW.out H2.out) BA.out LA.out (HSA.out.below HBW.out))
      go_wp2_with fail
      refine SMA.out.mono ?_
      rintro e w4 ⟨rfl, hl4, hm4⟩
      have B4 := Lib.hid (hm4.below HBW.out HBW.out.size HS.out)
      have N4 : Hid (∀ q, (S q ∨ wr.heap.size ≤ q ∧ q < w4.heap.size) → w.heap.size ≤ q) := fun q hq => by
        have := HBW.out.size
        rcases hq with hq | hq
        · exact HS.out q hq
        · omega
      have T4 : Hid ((addT T a).length ≤ 41) := by
        have := hT42.out
        have h5 := addT_len T a
        show _ ≤ _
        rw [h5]
        split <;> omega
      have SMB := Lib.hid (sumY _ g (addT T a) b (.slice xb M cb) w4 hl4 (fun q n0 e hs => by
          have h1 := HSB.out.lt q n0 e
          have h2 := N4.out q hs
          omega) (by have := T4.out; omega) (HGL.out.below B4.out H2.out) BB.out LB.out (HSB.out.below B4.out))
      clear hl4 hm4 SMA HLG
      rw [← HA.out]
      go_wp2_with fail
      refine SMB.out.mono ?_
      rintro e w5 ⟨rfl, hl5, hm5⟩
      rw [← HB.out]
      have B5 := Lib.hid (hm5.below B4.out B4.out.size N4.out)
      have T5 : Hid ((addT (addT T a) b).length ≤ 42) := by
        have := T4.out
        have h5 := addT_len (addT T a) b
        show _ ≤ _
        rw [h5]
        split <;> omega
      have MA : Hid (a ∈ addT (addT T a) b) := addT_mem.2 (.inl (addT_mem.2 (.inr rfl)))
      have MB : Hid (b ∈ addT (addT T a) b) := addT_mem.2 (.inr rfl)
      have N5 : Hid (∀ q, ((S q ∨ wr.heap.size ≤ q ∧ q < w4.heap.size) ∨ w4.heap.size ≤ q ∧ q < w5.heap.size) → w.heap.size ≤ q) := fun q hq => by
        have := B4.out.size
        rcases hq with hq | hq
        · exact N4.out q hq
        · omega
      obtain ⟨TT, hTT⟩ : ∃ TT, TT = addT (addT T a) b := ⟨_, rfl⟩
      rw [← hTT] at hl5 T5 MA MB
      obtain ⟨S5, hS5⟩ : ∃ S5 : Nat → Prop, S5 = fun q => (S q ∨ wr.heap.size ≤ q ∧ q < w4.heap.size) ∨ w4.heap.size ≤ q ∧ q < w5.heap.size := ⟨_, rfl⟩
      rw [← hS5] at hl5
      have N5' : Hid (∀ q, S5 q → w.heap.size ≤ q) := fun q hq => by rw [hS5] at hq; exact N5.out q hq
      have L5 := Lib.hid hl5
      clear hl5 hm5 hTT hS5 SMB N5 N4 B4 HS
      have g0 : ((w5.alloc (.cells Z27 31)).alloc (.cells Z27 31)).heap[w5.heap.size]? = some (.cells Z27 31 (0, 0)) := by
        rw [Below.heap_alloc _ _ _ (by simp)]; exact heap_alloc_new w5 _
      have g1 : (((w5.alloc (.cells Z27 31)).alloc (.cells Z27 31)).setRow w5.heap.size (bcells A)).heap[w5.heap.size + 1]? = some (.cells Z27 31 (0, 0)) := by
        rw [setRow_other _ _ _ _ (by omega)]; exact heap_alloc2_new w5 _ _
      obtain ⟨w8, hw8⟩ : ∃ w8, w8 = (((w5.alloc (.cells Z27 31)).alloc (.cells Z27 31)).setRow w5.heap.size (bcells A)).setRow (w5.heap.size + 1) (bcells B) := ⟨_, rfl⟩
      have R6 : Hid (w8.heap[w5.heap.size + 1]? = some (.cells (bcells B) 31 (0, 0))) := by rw [hw8]; exact setRow_heap _ _ _ _ _ _ g1
      have R5 : Hid (w8.heap[w5.heap.size]? = some (.cells (bcells A) 31 (0, 0))) := by rw [hw8, setRow_other _ _ _ _ (by omega)]; exact setRow_heap _ _ _ _ _ _ g0
      have B58 : Below w5.heap.size w5 w8 := by
        rw [hw8]
        exact ((((Below.refl _ _).alloc (Nat.le_refl _) _).alloc (by simp) _).trans (below_row _ _ (Nat.le_refl _))).trans (below_row _ _ (by omega))
      have B8 : Hid (Below w.heap.size w w8) := B5.out.trans (B58.mono B5.out.size)
      have L8 := Lib.hid (L5.out.below B58)
      have N8 : Hid (∀ q, S5 q → w.heap.size ≤ q ∧ q < w8.heap.size) := fun q hq => ⟨N5'.out q hq, (L8.out.own q hq).2⟩
      have G8 := Lib.hid (HGL.out.below B8.out H2.out)
      have H28 : Hid (2 ≤ w8.heap.size) := Nat.le_trans H2.out B8.out.size
      have SA8 := Lib.hid (HSA.out.below B8.out)
      have SB8 := Lib.hid (HSB.out.below B8.out)
      have HW8 := Lib.hid hw8
      have G0h := Lib.hid g0
      have G1h := Lib.hid g1
      clear g0 g1 hw8 B58 L5 N5'
      go_wp2_with (first
        | (refine wpList_store_row rfl 31 (.tmp 9) (.tmp 50) rfl w5.heap.size (bcells A) rfl rfl 31 Z27 G0h.out iA.out zA.out oA.out ?_)
        | (refine wpList_store_row rfl 31 (.tmp 10) (.tmp 53) rfl (w5.heap.size + 1) (bcells B) rfl rfl 31 Z27 G1h.out iB.out zB.out oB.out ?_))
      rw [← HW8.out]
      cases hc : clk sha TT with
      | none =>
        have IFF : (A = B) ↔ (a = b) := ⟨fun e => clk_none sha hc MA.out MB.out (by rw [← HA.out, ← HB.out]; exact e), fun e => by rw [HA.out, HB.out, e]⟩
        obtain ⟨q, hq⟩ : ∃ q, q = decide (a = b) := ⟨_, rfl⟩
        have EQ : Hid (∀ W : World, (Op.equalIn 10000 31 (.agg (bcells A)) (.agg (bcells B))).run Tryd.prog W = .ok q W) := fun W => by
          rw [EQ0.out W, hq, show decide (A = B) = decide (a = b) from decide_eq_decide.2 IFF]
        have SQ : Hid (((strOfNums a).toList == (strOfNums b).toList) = q) := by show _ = _; rw [SQ0.out, hq]
        have CL := Lib.hid (clashY0 _ g _ w8 L8.out hc)
        clear hc IFF hq EQ0 SQ0
        refine CL.out.mono ?_
        rintro e w' ⟨rfl, rfl⟩
        go_wp2_with fail
        refine wp_region_held_drew (S := fun W => Below w8.heap.size w8 W) (by kernel_rfl) (Below.refl _ _).drew (fun hS => ?_)
        refine wpAnyH_ready (rs := [0]) (by kernel_rfl) (by simp) ?_
        refine' AllReadyH.cons ?hoc0n (fun K hK => ?stc0n) AllReadyH.nil
        case hoc0n => (simp only [List.getElem?_toArray, List.getElem?_cons_zero]; rfl)
        go_simp
        refine (alive8 _ (G8.out.below hS H28.out)).mono ?_
        rintro e wA ⟨rfl, hb⟩
        go_wp2_with fail
        refine hK.out _ _ (hS.trans (hb.mono hS.size)) (fun hHeld => ?_)
        clear hK K
        try simp only [Act.put, List.setIfInBounds_toArray, List.set_cons_succ, List.set_cons_zero]
        clear hS hb
        have hS := hHeld
        clear hHeld
        refine' wpAnyH_take (i := 1) ?h1x1n ?hsx1n ?hfx1n ?hrx1n ?hQx1n (Or.inl ⟨?hwx1n, ?hyx1n⟩) hS ?restx1n
        case h1x1n => (simp only [List.getElem?_toArray, List.getElem?_cons_succ, List.getElem?_cons_zero]; rfl)
        case hsx1n => kernel_rfl
        case hfx1n => kernel_rfl
        case hrx1n => kernel_rfl
        case hQx1n => exact fun _ _ _ h => h
        case hwx1n => rfl
        case hyx1n =>
          intro W hW
          go_simp
          try with_reducible rfl
        simp only [Act.put, List.setIfInBounds_toArray, List.set_cons_succ, List.set_cons_zero]
        refine' wpAnyH_take (i := 2) ?h1x2n ?hsx2n ?hfx2n ?hrx2n ?hQx2n (yieldsIf_load_at ?hwx2n 31 (.tmp 9) ?hopx2n w5.heap.size 0 rfl (bcells A) _ (fun W hW => range_row ((hW.block _ (blk_lt R5.out)).trans R5.out)) Tryd.underlying31 rfl ?hix2n) hS ?restx2n
        case h1x2n => (simp only [List.getElem?_toArray, List.getElem?_cons_succ, List.getElem?_cons_zero]; rfl)
        case hopx2n => rfl
        case hsx2n => kernel_rfl
        case hfx2n => kernel_rfl
        case hrx2n => kernel_rfl
        case hQx2n => exact fun _ _ _ h => h
        case hwx2n => rfl
        case hix2n => exact iA.out
        simp only [Act.put, List.setIfInBounds_toArray, List.set_cons_succ, List.set_cons_zero]
        refine' wpAnyH_take (i := 3) ?h1x3n ?hsx3n ?hfx3n ?hrx3n ?hQx3n (yieldsIf_load_at ?hwx3n 31 (.tmp 10) ?hopx3n (w5.heap.size + 1) 0 rfl (bcells B) _ (fun W hW => range_row ((hW.block _ (blk_lt R6.out)).trans R6.out)) Tryd.underlying31 rfl ?hix3n) hS ?restx3n
        case h1x3n => (simp only [List.getElem?_toArray, List.getElem?_cons_succ, List.getElem?_cons_zero]; rfl)
        case hopx3n => rfl
        case hsx3n => kernel_rfl
        case hfx3n => kernel_rfl
        case hrx3n => kernel_rfl
        case hQx3n => exact fun _ _ _ h => h
        case hwx3n => rfl
        case hix3n => exact iB.out
        simp only [Act.put, List.setIfInBounds_toArray, List.set_cons_succ, List.set_cons_zero]
        refine' wpAnyH_take (i := 4) ?h1x4n ?hsx4n ?hfx4n ?hrx4n ?hQx4n (Or.inl ⟨?hwx4n, ?hyx4n⟩) hS ?restx4n
        case h1x4n => (simp only [List.getElem?_toArray, List.getElem?_cons_succ, List.getElem?_cons_zero]; rfl)
        case hsx4n => kernel_rfl
        case hfx4n => kernel_rfl
        case hrx4n => kernel_rfl
        case hQx4n => exact fun _ _ _ h => h
        case hwx4n => rfl
        case hyx4n =>
          intro W hW
          have eq := EQ.out W
          go_simp
          try with_reducible rfl
        simp only [Act.put, List.setIfInBounds_toArray, List.set_cons_succ, List.set_cons_zero]
        refine' wpAnyH_take (i := 5) ?h1x5n ?hsx5n ?hfx5n ?hrx5n ?hQx5n (Or.inl ⟨?hwx5n, ?hyx5n⟩) hS ?restx5n
        case h1x5n => (simp only [List.getElem?_toArray, List.getElem?_cons_succ, List.getElem?_cons_zero]; rfl)
        case hsx5n => kernel_rfl
        case hfx5n => kernel_rfl
        case hrx5n => kernel_rfl
        case hQx5n => exact fun _ _ _ h => h
        case hwx5n => rfl
        case hyx5n =>
          intro W hW
          go_simp
          try with_reducible rfl
        simp only [Act.put, List.setIfInBounds_toArray, List.set_cons_succ, List.set_cons_zero]
        refine' wpAnyH_take (i := 6) ?h1x6n ?hsx6n ?hfx6n ?hrx6n ?hQx6n (Or.inl ⟨?hwx6n, ?hyx6n⟩) hS ?restx6n
        case h1x6n => (simp only [List.getElem?_toArray, List.getElem?_cons_succ, List.getElem?_cons_zero]; rfl)
        case hsx6n => kernel_rfl
        case hfx6n => kernel_rfl
        case hrx6n => kernel_rfl
        case hQx6n => exact fun _ _ _ h => h
        case hwx6n => rfl
        case hyx6n =>
          intro W hW
          have st := (SA8.out.below hW).str
          go_simp
          try with_reducible rfl
        simp only [Act.put, List.setIfInBounds_toArray, List.set_cons_succ, List.set_cons_zero]
        refine' wpAnyH_take (i := 7) ?h1x7n ?hsx7n ?hfx7n ?hrx7n ?hQx7n (Or.inl ⟨?hwx7n, ?hyx7n⟩) hS ?restx7n
        case h1x7n => (simp only [List.getElem?_toArray, List.getElem?_cons_succ, List.getElem?_cons_zero]; rfl)
        case hsx7n => kernel_rfl
        case hfx7n => kernel_rfl
        case hrx7n => kernel_rfl
        case hQx7n => exact fun _ _ _ h => h
        case hwx7n => rfl
        case hyx7n =>
          intro W hW
          go_simp
          try with_reducible rfl
        simp only [Act.put, List.setIfInBounds_toArray, List.set_cons_succ, List.set_cons_zero]
        refine' wpAnyH_take (i := 8) ?h1x8n ?hsx8n ?hfx8n ?hrx8n ?hQx8n (Or.inl ⟨?hwx8n, ?hyx8n⟩) hS ?restx8n
        case h1x8n => (simp only [List.getElem?_toArray, List.getElem?_cons_succ, List.getElem?_cons_zero]; rfl)
        case hsx8n => kernel_rfl
        case hfx8n => kernel_rfl
        case hrx8n => kernel_rfl
        case hQx8n => exact fun _ _ _ h => h
        case hwx8n => rfl
        case hyx8n =>
          intro W hW
          have st := (SB8.out.below hW).str
          go_simp
          try with_reducible rfl
        simp only [Act.put, List.setIfInBounds_toArray, List.set_cons_succ, List.set_cons_zero]
        refine' wpAnyH_take (i := 9) ?h1x9n ?hsx9n ?hfx9n ?hrx9n ?hQx9n (Or.inl ⟨?hwx9n, ?hyx9n⟩) hS ?restx9n
        case h1x9n => (simp only [List.getElem?_toArray, List.getElem?_cons_succ, List.getElem?_cons_zero]; rfl)
        case hsx9n => kernel_rfl
        case hfx9n => kernel_rfl
        case hrx9n => kernel_rfl
        case hQx9n => exact fun _ _ _ h => h
        case hwx9n => rfl
        case hyx9n =>
          intro W hW
          have sq := SQ.out
          go_simp
          try with_reducible rfl
        simp only [Act.put, List.setIfInBounds_toArray, List.set_cons_succ, List.set_cons_zero]
        refine' wpAnyH_take (i := 10) ?h1x10n ?hsx10n ?hfx10n ?hrx10n ?hQx10n (Or.inl ⟨?hwx10n, ?hyx10n⟩) hS ?restx10n
        case h1x10n => (simp only [List.getElem?_toArray, List.getElem?_cons_succ, List.getElem?_cons_zero]; rfl)
        case hsx10n => kernel_rfl
        case hfx10n => kernel_rfl
        case hrx10n => kernel_rfl
        case hQx10n => exact fun _ _ _ h => h
        case hwx10n => rfl
        case hyx10n =>
          intro W hW
          go_simp
          try with_reducible rfl
        simp only [Act.put, List.setIfInBounds_toArray, List.set_cons_succ, List.set_cons_zero]
        refine' wpAnyH_take (i := 11) ?h1x11n ?hsx11n ?hfx11n ?hrx11n ?hQx11n (Or.inl ⟨?hwx11n, ?hyx11n⟩) hS ?restx11n
        case h1x11n => (simp only [List.getElem?_toArray, List.getElem?_cons_succ, List.getElem?_cons_zero]; rfl)
        case hsx11n => kernel_rfl
        case hfx11n => kernel_rfl
        case hrx11n => kernel_rfl
        case hQx11n => exact fun _ _ _ h => h
        case hwx11n => rfl
        case hyx11n =>
          intro W hW
          go_simp
          try with_reducible rfl
        simp only [Act.put, List.setIfInBounds_toArray, List.set_cons_succ, List.set_cons_zero]
        refine' wpAnyH_take (i := 12) ?h1x12n ?hsx12n ?hfx12n ?hrx12n ?hQx12n (Or.inl ⟨?hwx12n, ?hyx12n⟩) hS ?restx12n
        case h1x12n => (simp only [List.getElem?_toArray, List.getElem?_cons_succ, List.getElem?_cons_zero]; rfl)
        case hsx12n => kernel_rfl
        case hfx12n => kernel_rfl
        case hrx12n => kernel_rfl
        case hQx12n => exact fun _ _ _ h => h
        case hwx12n => rfl
        case hyx12n =>
          intro W hW
          go_simp
          try with_reducible rfl
        simp only [Act.put, List.setIfInBounds_toArray, List.set_cons_succ, List.set_cons_zero]
        refine wpAnyH_done (by kernel_rfl) ?_ _
        go_wp2_with fail
        go_ret
        exact ⟨rfl, B8.out.trans (hS.mono B8.out.size)⟩
      | some c =>
        have h2 := clk_some sha hc
        obtain ⟨t0, h0⟩ : ∃ t0, (ofSum sha TT c)[0]? = some t0 := ⟨_, List.getElem?_eq_getElem (by omega)⟩
        obtain ⟨t1, h1⟩ : ∃ t1, (ofSum sha TT c)[1]? = some t1 := ⟨_, List.getElem?_eq_getElem (by omega)⟩
        have m0 := (mem_ofSum sha).1 (List.mem_of_getElem? h0)
        have m1 := (mem_ofSum sha).1 (List.mem_of_getElem? h1)
        obtain ⟨mb, s, f, C, hLs⟩ := L8.out
        have NE : t0 ≠ t1 := fun e => by
          have nd : (ofSum sha TT c).Nodup := hLs.nodup.filter _
          obtain ⟨p0, q0⟩ := List.getElem?_eq_some_iff.1 h0
          obtain ⟨p1, q1⟩ := List.getElem?_eq_some_iff.1 h1
          have := (List.getElem_inj (xs := ofSum sha TT c) (h₀ := p0) (h₁ := p1) nd).1 (by rw [q0, q1, e])
          omega
        have b0 := hLs.byt t0 m0.1
        have b1 := hLs.byt t1 m1.1
        have CL := Lib.hid (clashY1 _ g _ w8 c t0 t1 L8.out hc h0 h1)
        have SQ : Hid (((strOfNums t0).toList == (strOfNums t1).toList) = false) := by show _ = _; rw [str_eq b0.1 b1.1]; exact decide_eq_false NE
        have E0 : Hid (sha t0 = c) := m0.2
        have E1 : Hid (sha t1 = c) := m1.2
        have M0 : Hid (decide (t0 ∈ TT) = true) := decide_eq_true m0.1
        have M1 : Hid (decide (t1 ∈ TT) = true) := decide_eq_true m1.1
        have AD0 : Hid (addT TT t0 = TT) := by show _ = _; unfold addT; rw [if_pos m0.1]
        have Y0 := Lib.hid b0
        have Y1 := Lib.hid b1
        have EQC := Lib.hid (eq27_same c (by rw [← m0.2]; exact sha_byt _) (by rw [← m0.2]; exact sha_len _ b0.1))
        clear hc h2 h0 h1 m0 m1 hLs NE b0 b1 EQ0 SQ0
        refine CL.out.mono ?_
        rintro e wC ⟨v0, v1, rfl, s0, s1, ⟨x0, c0, rfl⟩, ⟨x1, c1, rfl⟩, k0, k1, hbC⟩
        have BC := Lib.hid (B8.out.trans (hbC.mono B8.out.size))
        have LC := Lib.hid (L8.out.below hbC)
        have S0 := Lib.hid s0
        have S1 := Lib.hid s1
        have K0 := Lib.hid k0
        have K1 := Lib.hid k1
        clear s0 s1 k0 k1 hbC
        go_wp2_with fail
        refine (alive8 _ (HGL.out.below BC.out H2.out)).mono ?_
        rintro e wD ⟨rfl, hbD⟩
        have BD := Lib.hid (BC.out.trans (hbD.mono BC.out.size))
        have LD := Lib.hid (LC.out.below hbD)
        have S0D := Lib.hid (S0.out.below hbD)
        have S1D := Lib.hid (S1.out.below hbD)
        have HPD := hasY _ g TT t0 _ wD LD.out (by have := T5.out; omega) (HGL.out.below BD.out H2.out) Y0.out.1 Y0.out.2 S0D.out
        rw [M0.out] at HPD
        have HP := Lib.hid HPD
        have CDs : Hid (wC.heap.size ≤ wD.heap.size) := hbD.size
        have st0 := S0D.out.str
        have st1 := S1D.out.str
        have sq := SQ.out
        clear hbD HPD
        go_wp2_with fail
        refine HP.out.mono ?_
        rintro e wE ⟨rfl, hbE⟩
        have BE := Lib.hid (BD.out.trans (hbE.mono BD.out.size))
        have LE := Lib.hid (LD.out.below hbE)
        have S0E := Lib.hid (S0D.out.below hbE)
        have S1E := Lib.hid (S1D.out.below hbE)
        have HQE := hasY _ g TT t1 _ wE LE.out (by have := T5.out; omega) (HGL.out.below BE.out H2.out) Y1.out.1 Y1.out.2 S1E.out
        rw [M1.out] at HQE
        have HQ := Lib.hid HQE
        have CEs : Hid (wC.heap.size ≤ wE.heap.size) := Nat.le_trans CDs.out hbE.size
        clear hbE HQE st0 st1 sq LD S0D S1D HP
        go_wp2_with fail
        refine HQ.out.mono ?_
        rintro e wF ⟨rfl, hbF⟩
        have BF := Lib.hid (BE.out.trans (hbF.mono BE.out.size))
        have LF := Lib.hid (LE.out.below hbF)
        have S0F := Lib.hid (S0E.out.below hbF)
        have S1F := Lib.hid (S1E.out.below hbF)
        have CFs : Hid (wC.heap.size ≤ wF.heap.size) := Nat.le_trans CEs.out hbF.size
        have SP := sumY _ g TT t0 _ wF LF.out (fun q _ e hs => by
          have h1 := K0.out q e
          have h2 := (N8.out q hs).2
          omega) (by have := T5.out; omega) (HGL.out.below BF.out H2.out) Y0.out.1 Y0.out.2 S0F.out
        have SPh := Lib.hid SP
        clear hbF SP LE S0E S1E HQ
        go_wp2_with fail
        refine SPh.out.mono ?_
        rintro e wG ⟨he, hlG, hmG⟩
        rw [E0.out] at he
        subst he
        rw [AD0.out] at hlG
        have BG : Hid (Below w.heap.size w wG) := hmG.below BF.out BF.out.size (fun q hq => (N8.out q hq).1)
        have S1G : Sees wG (.slice x1 t1.length c1) t1 := S1F.out.mods hmG (fun q _ e hs => by
          have h1 := K1.out q e
          have h2 := (N8.out q hs).2
          omega)
        have SQ2 := sumY _ g TT t1 _ wG hlG (fun q n0 e hs => by
          have h1 := K1.out q e
          have h3 := S1.out.lt q n0 e
          have h4 := CFs.out
          rcases hs with hs | hs
          · have h2 := (N8.out q hs).2
            omega
          · omega) (by have := T5.out; omega) (HGL.out.below BG.out H2.out) Y1.out.1 Y1.out.2 S1G
        have NG : Hid (∀ q, (S5 q ∨ wF.heap.size ≤ q ∧ q < wG.heap.size) → w.heap.size ≤ q) := fun q hs => by
          have := BF.out.size
          rcases hs with hs | hs
          · exact (N8.out q hs).1
          · omega
        have SQh := Lib.hid SQ2
        clear hlG hmG SQ2 S1G SPh
        go_wp2_with fail
        refine SQh.out.mono ?_
        rintro e wH ⟨he, _, hmH⟩
        rw [E1.out] at he
        subst he
        have BH : Hid (Below w.heap.size w wH) := hmH.below BG.out BG.out.size NG.out
        have eqc := EQC.out
        clear hmH SQh
        go_wp2_with fail
        go_ret
        exact ⟨rfl, BH.out⟩
theorem walkI (xss : List (List Int)) (a b : List Int) (vl va vb : Value) (w : World) (hG : Glob w) (hm : SeesM w vl xss) (ha : Sees w va a) (hb : Sees w vb b) : Calls Tryd.prog 5 #[vl, va, vb] w fun e w' => e = .returned (.bool true) ∧ Below w.heap.size w w' := by
  obtain ⟨xa, ca, rfl, _⟩ := ha.form
  obtain ⟨xb, cb, rfl, _⟩ := hb.form
  by_cases h : 40 < xss.length ∨ 300 < a.length ∨ 300 < b.length
  · obtain ⟨xl, cl, rfl, _⟩ := form_m hm
    exact walkBig xl xa xb _ _ _ cl ca cb w hG h
  · exact walk xss a b vl xa xb _ _ ca cb w hG hm ha hb rfl rfl (by omega) (by omega) (by omega)

set_option maxRecDepth 100000 in
theorem lifted (os : Os) (started : os.Started) (H : Type) (enc : TypeId × Value → H) :
    ReturnsInHanded {} Tryd.checked os 5 .any (fun w args => (Rows.hashlogApartSpec.pre enc Tryd.prog Tryd.f5 [] false w args ∧ laidMetH Tryd.prog laid2 w) ∧ sizedMet enc Tryd.prog Tryd.f5 (OpenSpec.ofChange Rows.hashlogApartSpec) false w args)
      (Rows.hashlogApartSpec.post enc Tryd.prog Tryd.f5 false true false false) := by
  refine returnsInHanded_of_change_and (C := Tryd.checked) (X := fun w _ => laidMetH Tryd.prog laid2 w) (fun _ _ _ hh h => h.of_heap hh) own started (by kernel_rfl) Tryd.func5
    (ChangeSpec.witness_shaped (enc := enc) (C := Tryd.checked) (os := os) (X := fun w _ => laidMetH Tryd.prog laid2 w) false (World.doorLaid Tryd.prog 400 os) #[.slice none 0 0, .slice none 0 0, .slice none 0 0] 8 rfl (World.shaped_of_RefB (by kernel_rfl) (by kernel_rfl)) (by kernel_rfl) (by kernel_rfl) (by kernel_rfl) (door_met os _)) ?_
  intro W base args ds gs before hval0 hW _ _ hL _
  have hval : ∀ (j : Nat) t v, Tryd.f5.params[j]? = some t → args[j]? = some v → Value.okWide Tryd.prog W .any base t v := hval0
  have hW' := hW
  obtain ⟨p, q, hA0, hV, rfl, hfz, hnd⟩ := hW
  have hA : DataW.TrodAll enc Tryd.prog W 0 (fun _ => true) true Tryd.f5.params.toList args.toList ds p := hA0
  rw [Tryd.params5] at hA hval
  obtain ⟨v0, vs0, d0, ds0, p0, q0, hargs, rfl, rfl, h0, r0⟩ := trodAll_cons hA
  obtain ⟨v1, vs1, d1, ds1, p1, q1, rfl, rfl, rfl, h1, r1⟩ := trodAll_cons r0
  obtain ⟨v2, vs2, d2, ds2, p2, q2, rfl, rfl, rfl, h2, r2⟩ := trodAll_cons r1
  obtain ⟨rfl, rfl, rfl⟩ := trodAll_nil r2
  obtain rfl : args = #[v0, v1, v2] := by cases args; simp_all
  obtain ⟨rfl, rfl⟩ := trodVars_none hV
  obtain ⟨x0, s0⟩ := open_texts (hval 0 22 v0 rfl rfl) h0
  obtain ⟨x1, s1⟩ := open_sees (hval 1 23 v1 rfl rfl) h1
  obtain ⟨x2, s2⟩ := open_sees (hval 2 23 v2 rfl rfl) h2
  refine (walkI x0 x1 x2 v0 v1 v2 W (of_laid hL) s0 s1 s2).mono fun e W' ⟨he, hb⟩ => ?_
  subst he
  exact ⟨_, rfl, law_post hW' rfl rfl rfl (by kernel_rfl) hb⟩
/-- The row's statement. -/
theorem row_holds : Rows.HashlogApartSaid :=
  OpenClaim.holds_of_wide 5 Tryd.f5 rfl rfl rfl rfl rfl rfl rfl ⟨rfl, rfl, rfl, rfl, rfl⟩ rfl rfl rfl rfl rfl (by kernel_rfl) Tryd.func5 (by kernel_rfl)
    (of_decide_eq_true (by kernel_rfl)) (by unfold Func.isWrapper; first | (rw [if_pos (by decide +kernel)]; kernel_rfl) | (rw [if_neg (by decide +kernel)]; exact ⟨rfl, rfl⟩))
    (fun os started H enc _ => lifted os started H enc)
/-- The tied card. -/
theorem proved : Rows.HashlogApartCardSaid :=
  Claim7.holds_tied_plain_at .later [] [.data, .data] true (true, "d480036ef970937bd262da45ca70bea84650359a340a4447fa45a1141bb94ffb") false
    row_holds (fun _ h => by cases h) (by kernel_rfl) (fun _ h => by cases h) hashlogApart_row_tie rfl ⟨rfl, rfl⟩ (by kernel_rfl) rfl
    (fun f fn hf hfn => by
      obtain rfl : f = 5 := Option.some.inj ((show Tryd.prog.funcNamed "casemate/casematelaw08.HashlogApart" = some 5 by kernel_rfl).symm.trans hf) |>.symm
      obtain rfl : fn = Tryd.f5 := (Option.some.inj (Tryd.func5.symm.trans hfn)).symm
      exact ⟨by kernel_rfl, fun j t ht => by
        rw [Tryd.params5] at ht
        have hm : t ∈ [22, 23, 23] := by simpa using Array.mem_of_getElem? ht
        have hall : ([22, 23, 23].all fun u => !Tryd.prog.wantsStandIn u) = true := by kernel_rfl
        exact (show Tryd.prog.wantsStandIn t = false by simpa using List.all_eq_true.1 hall t hm)⟩)
    (by kernel_rfl)
#print axioms proved
end Go.Proofs.YtboaceabimlodaaDoor.hashlogApart
