/-
  For all texts the law ShaWrites of package casematelaw02 returns true, and they read afterwards as before: a hash tells the document's sum of all that was written, whenever it is asked, and shares nothing. Condition: the two tables of package sha read, when the call begins, as their declarations lay them (the card ties that to the program's text).
-/
import Derived.Test.YtmkaagiabafooaaDoorWritesA
import Derived.IntWalk
namespace Go.Proofs.YtmkaagiabafooaaDoor.shaWrites
open Go.ChangeShapes Go.WideShapes Go.ChangeAt Go.RowKit
theorem own_empty (w : World) (base : Nat) (h : base ≤ w.heap.size) : Own (w.alloc (.cells #[] 5)) base (.slice (some ⟨w.heap.size, 0, none⟩) 0 0) [] :=
  ⟨fun _ h => by simp at h, rfl, .inr ⟨w.heap.size, 0, #[], rfl, h, heap_alloc_new w _, Nat.le_refl _, by simp [maxLen], rfl, rfl⟩⟩
theorem xor255 (y : Int) (_ : 0 ≤ y ∧ y ≤ 255) : 0 ≤ bits .xor .u8 y 255 ∧ bits .xor .u8 y 255 ≤ 255 := bounds_u8 (wf_bits .xor .u8 y 255)
theorem size23 (W : World) : (sizeOf (Tryd.prog.elem 23)).run Tryd.prog W = .ok 1 W := by kernel_rfl
theorem und23 : Tryd.prog.underlying 23 = some (.slice (Tryd.prog.elem 23)) := by kernel_rfl
theorem cut23 (b o n cap : Nat) (k : Nat) (z : Int) (hz : z = (k : Int) + 1) (hk : k + 1 ≤ cap) (W : World) : (Instr.slice 23 (.slice (some ⟨b, o, none⟩) n cap) none (some (.int .i64 z)) none).run Tryd.prog W = .ok (.slice (some ⟨b, o, none⟩) (k + 1) cap) W := by
  subst hz
  rw [run_slice_h W 23 (some ⟨b, o, none⟩) n cap und23 .i64 ((k : Int) + 1) (by omega) (by omega), size23]
  simp [Result.andThen, sliced, show ((k : Int) + 1).toNat = k + 1 by omega, addr_add]
set_option maxRecDepth 100000 in
set_option maxHeartbeats 4000000 in
theorem walk_great (vb : Value) (yss : List (List Int)) (w : World) (hG : Glob w) (hb : SeesM w vb yss) (h : greatB yss = true) :
    Calls Tryd.prog 4 #[vb] w fun e w' => e = .returned (.bool true) ∧ Below w.heap.size w w' := by
  have AL := Lib.hid (alive w hG)
  have GR := Lib.hid (greatD vb yss w hb)
  rw [h] at GR
  clear hb hG h
  go_enter Tryd.func4, Tryd.ntmps4
  go_wp2_with fail
  refine GR.out.mono ?_
  rintro e w1 ⟨rfl, rfl⟩
  go_wp2_with fail
  refine AL.out.mono ?_
  rintro e w1 ⟨rfl, hb⟩
  have HB := Lib.hid hb
  clear hb
  go_wp2_with fail
  go_ret
  exact ⟨rfl, HB.out⟩
set_option maxRecDepth 100000 in
set_option maxHeartbeats 16000000 in
theorem walk (vb : Value) (yss : List (List Int)) (w : World) (hG : Glob w) (hm : SeesM w vb yss) (h2 : greatB yss = false) :
    Calls Tryd.prog 4 #[vb] w fun e w' => e = .returned (.bool true) ∧ Below w.heap.size w w' := by
  have z27 := zv27c
  have IZ := Lib.hid iz27
  have OZ := Lib.hid oz27
  have h2w : 2 ≤ w.heap.size := by have := hG.lt; omega
  have hn12 := (greatB_no h2).1
  have hfl := great_flat h2
  have hbl : SeesL w vb yss := hm.few (by omega)
  have hyb : Byt yss.flatten := seesL_byt hbl
  have GR := Lib.hid (greatD vb yss w hm)
  rw [h2] at GR
  obtain ⟨n, hn⟩ : ∃ n, n = yss.length := ⟨_, rfl⟩
  have hdat : ∃ x c, vb = .slice x n c ∧ (n = 0 ∨ ∃ b o, x = some ⟨b, o, none⟩ ∧ n ≤ c ∧ ∀ k, k < n → ∃ u, w.cell? ⟨b, o + k, none⟩ = some u ∧ Sees w u (yss.getD k [])) := by
    rcases hm with ⟨x, cap, rfl, rfl⟩ | ⟨b, o, cap, rfl, _, _, hc1, hc2⟩
    · exact ⟨x, cap, by rw [hn]; rfl, .inl (by rw [hn]; rfl)⟩
    · exact ⟨_, cap, by rw [hn], .inr ⟨b, o, rfl, by omega, fun k hk => hc2 k (by omega)⟩⟩
  have HL4 : Hid (∀ k, k < n → (yss.getD k []).length ≤ 400) := fun k hk => (greatB_no h2).2 k (by omega)
  have HLE : Hid (∀ k, ((yss.take k).flatten).length ≤ 4800) := fun k => Nat.le_trans (flat_le yss k) hfl
  have HFT : Hid (∀ k, k < n → (yss.take (k + 1)).flatten = (yss.take k).flatten ++ yss.getD k []) := fun k hk => flat_take yss k (by omega)
  have HBY : Hid (∀ k, Byt ((yss.take k).flatten)) := fun k x hx => hyb x (by
    rw [← List.take_append_drop k yss, List.flatten_append]; exact List.mem_append_left _ hx)
  obtain ⟨x1, c1, rfl, hdat⟩ := hdat
  have HDAT := Lib.hid hdat
  have HBL := Lib.hid hbl
  have HGL := Lib.hid hG
  have H2W := Lib.hid h2w
  have HNN := Lib.hid hn
  have hnb : n ≤ 12 := by omega
  have sl := all27
  clear hbl hyb hG h2w h2 hfl hm hn hn12 hdat
  go_enter Tryd.func4, Tryd.ntmps4
  go_wp2_with fail
  refine GR.out.mono ?_
  rintro e w1 ⟨rfl, rfl⟩
  go_wp2_with fail
  refine (newh _ HGL.out).mono ?_
  rintro e w1 ⟨rfl, hw1⟩
  have st1 := new_at w
  rw [hw1] at st1
  have b1 : Below w.heap.size w w1 := by rw [← hw1]; exact (Below.refl _ _).alloc (Nat.le_refl _) _
  have ST1 := Lib.hid st1
  have B1 := Lib.hid b1
  clear st1 b1 hw1
  obtain ⟨gh, hgh⟩ : ∃ gh, gh = w.heap.size := ⟨_, rfl⟩
  rw [← hgh] at ST1 ⊢
  have HGH := Lib.hid hgh
  clear hgh
  go_wp2_with fail
  go_loopw [4, 5, 6, 7, 8, 9] (fun vi _ _ _ _ _ wr => ∃ (k : Nat) (l : Nat), k ≤ n ∧ vi = .int .i64 k ∧ l = ((yss.take k).flatten).length ∧ HSat wr gh (puts h0 ((yss.take k).flatten)) (l : Int) ∧ Below w.heap.size w wr) (fun vi _ _ _ _ _ _ => n - (intOf vi).toNat)
  case atStart => exact ⟨0, 0, by omega, rfl, by simp, ST1.out, B1.out⟩
  case round =>
    clear ST1 B1
    obtain ⟨k, l, hk, rfl, hll, hst, hb⟩ := hrel
    by_cases hlt : k < n
    · obtain ⟨wo, rfl⟩ : ∃ wo : World, wo = wr := ⟨_, rfl⟩
      obtain ⟨b0, o0, hx1, hnc, u, hu, hs, hLk⟩ : ∃ b o, x1 = some ⟨b, o, none⟩ ∧ n ≤ c1 ∧ ∃ u, w.cell? ⟨b, o + k, none⟩ = some u ∧ Sees w u (yss.getD k []) ∧ SeesL w (.slice (some ⟨b, o, none⟩) (k + 1) c1) (yss.take (k + 1)) := by
        rcases HDAT.out with h | ⟨b, o, hx, hc, hall⟩
        · omega
        · obtain ⟨u, h1, h2⟩ := hall k hlt
          have hlk : (yss.take (k + 1)).length = k + 1 := by rw [List.length_take, ← HNN.out]; omega
          refine ⟨b, o, hx, hc, u, h1, h2, .inr ⟨b, o, c1, by rw [hlk], by rw [hlk]; omega, fun i hi => ?_⟩⟩
          rw [hlk] at hi
          obtain ⟨u', h1', h2'⟩ := hall i (by omega)
          have e : (yss.take (k + 1)).getD i [] = yss.getD i [] := by simp [List.getD, List.getElem?_take_of_lt hi]
          exact ⟨u', h1', by rw [e]; exact h2'⟩
      subst hx1
      have hu' : wo.cell? ⟨b0, o0 + k, none⟩ = some u := by rw [hb.cell (p := ⟨b0, o0 + k, none⟩) (World.block_lt_of_cell? w _ hu)]; exact hu
      have hm4 := HL4.out k hlt
      have hft := HFT.out k hlt
      have hle := HLE.out (k + 1)
      obtain ⟨F, hF⟩ : ∃ F, F = (yss.take k).flatten := ⟨_, rfl⟩
      obtain ⟨F2, hF2⟩ : ∃ F2, F2 = (yss.take (k + 1)).flatten := ⟨_, rfl⟩
      have hbF2 : Byt F2 := by rw [hF2]; exact HBY.out (k + 1)
      have LK1 : Hid ((yss.take (k + 1)).flatten = F2) := hF2.symm
      rw [← hF] at hst hll hft
      rw [← hF2] at hft hle
      have DJ : Hid (∀ W, SeesL W (.slice (some ⟨b0, o0, none⟩) (k + 1) c1) (yss.take (k + 1)) → Calls Tryd.prog 17 #[.slice (some ⟨b0, o0, none⟩) (k + 1) c1] W (OwnP W F2)) := fun W hv => by
        have := joinD _ _ W hv (by rw [LK1.out]; omega); rw [LK1.out] at this; exact this
      have DS : Hid (∀ W v, Sees W v F2 → Calls Tryd.prog 16 #[v] W (OwnP W (sha F2))) := fun W v hv => sumD v F2 (by omega) W hv
      have HLk := Lib.hid hLk
      generalize yss.getD k [] = xs at *
      obtain ⟨m, hm⟩ : ∃ m, m = xs.length := ⟨_, rfl⟩
      have hsum : sumOf (puts (puts h0 F) xs) (l + m) = sha F2 := by rw [← puts_append, ← hft, hll, hm, ← List.length_append, ← hft]; rfl
      have hl2 : l + m = F2.length := by rw [hft, List.length_append, hll, hm]
      have hB0 : Below wo.heap.size wo (wo.alloc (.cells #[] 5)) := (Below.refl _ _).alloc (Nat.le_refl _) _
      obtain ⟨xo, co, wa, ra, oa, ga, ba⟩ := app (own_empty wo wo.heap.size (Nat.le_refl _)) ((hs.below hb).below hB0) (by simp; omega) (by simp)
      have Ba : Below wo.heap.size wo wa := hB0.trans ba
      have hu2 : (wo.alloc (.cells #[] 5)).cell? ⟨b0, o0 + k, none⟩ = some u := (hB0.cell (p := ⟨b0, o0 + k, none⟩) (World.block_lt_of_cell? _ _ hu')).trans hu'
      simp only [List.length_nil, Nat.zero_add, List.nil_append] at ra oa
      rw [← hm] at ra oa hm4
      have hghlt : gh < wo.heap.size := blk_lt hst.2
      have WR := Lib.hid (write gh (puts h0 F) l (.slice xo m co) xs wa (hst.below Ba) oa.sees (fun _ e => by have := oa.blk gh e; omega) (by omega) (by rw [HGH.out]; exact H2W.out) (HGL.out.below (hb.trans (Ba.mono hb.size)) H2W.out))
      have RA := Lib.hid ra
      have OA := Lib.hid oa
      have HU := Lib.hid (hs.form)
      have BA := Lib.hid (hb.trans (Ba.mono hb.size))
      have BO := Lib.hid Ba
      have HX := Lib.hid hm
      have HS := Lib.hid hsum
      have HL2 := Lib.hid hl2
      have HGLT := Lib.hid hghlt
      have HFB := Lib.hid hbF2
      have hkc : ∀ W, (Instr.slice 23 (.slice (some ⟨b0, o0, none⟩) n c1) none (some (.int .i64 ((k : Int) + 1))) none).run Tryd.prog W = .ok (.slice (some ⟨b0, o0, none⟩) (k + 1) c1) W := fun W => cut23 b0 o0 n c1 k _ rfl (by omega) W
      have HKC := Lib.hid hkc
      have HF2E := Lib.hid hF2
      have HPP : Hid (puts (puts h0 F) xs = puts h0 ((yss.take (k + 1)).flatten)) := by show _ = _; rw [← puts_append, ← hft, hF2]
      clear hkc ra oa ga ba Ba hB0 hs hb hst hm hsum hl2 hghlt hbF2 hft hF hF2 hu hu' hLk hll
      go_wp2_with (at_builtin; refine wpList_app rfl (.tmp 28) (.tmp 32) rfl rfl rfl rfl RA.out ?_)
      refine WR.out.mono ?_
      rintro e w2 ⟨rfl, st2, gr2⟩
      rw [← HX.out] at st2
      have own2 := OA.out.grown gr2 (.inr (fun e => by have := OA.out.blk gh e; have := HGLT.out; omega))
      have ST2 := Lib.hid st2
      have OW2 := Lib.hid own2
      have B2 : Hid (Below w.heap.size w w2) := BA.out.grown gr2 BA.out.size (fun j e => by rw [← Option.some.inj e, HGH.out]; exact Nat.le_refl _)
      have L2 : Hid (gh < w2.heap.size) := blk_lt st2.2
      clear st2 own2 gr2 WR RA
      go_wp2_with fail
      go_loopw [7] (fun vi wr => ∃ (j : Nat) (zs : List Int), j ≤ m ∧ vi = .int .i64 j ∧ zs.length = m ∧ Own wr wo.heap.size (.slice xo m co) zs ∧ w2.grownBy wr (Value.slice xo m co).ownBlock) (fun vi _ => m - (intOf vi).toNat)
      case atStart => exact ⟨0, xs, by omega, rfl, HX.out.symm, OW2.out, ⟨rfl, rfl, rfl, Nat.le_refl _, fun _ _ _ => rfl⟩⟩
      case round =>
        obtain ⟨j, zs, hj, rfl, hzl, ho, hg⟩ := hrel
        by_cases hlt2 : j < m
        · obtain ⟨g, cap', hv, hgb, _, _, hc⟩ := ho.cells (by omega)
          simp only [Value.slice.injEq] at hv
          obtain ⟨rfl, _, rfl⟩ := hv
          have hcell := hc j (by omega)
          obtain ⟨y0, y1⟩ := ho.1.nth j
          obtain ⟨oS, gS, fS⟩ := ho.set j (bits .xor .u8 (nth zs j) 255) (xor255 _ ⟨y0, y1⟩)
          have hg' : w2.grownBy (wr.setCell ⟨g, j, none⟩ (.int .u8 (bits .xor .u8 (nth zs j) 255))) (some g) := hg.trans gS
          have OS2 := Lib.hid oS
          have HG2 := Lib.hid hg'
          have HZL := Lib.hid hzl
          clear oS gS hg' ho hg hc hzl hgb
          generalize nth zs j = y at *
          go_wp2_with fail
          go_roundw
          case rel => exact ⟨j + 1, zs.set j (bits .xor .u8 y 255), by omega, by go_num, by rw [List.length_set]; exact HZL.out, OS2.out, HG2.out⟩
          case measure => simp [intOf]; omega
        · have hne : (Value.slice xo m co).ownBlock ≠ some gh := fun e => by have := ho.blk gh e; have := HGLT.out; omega
          have ST3 := Lib.hid (ST2.out.kept hg hne)
          have B3 : Hid (Below w.heap.size w wr) := B2.out.grown hg B2.out.size (fun j e => by have := ho.blk j e; have := BA.out.size; have := HGH.out; have := HGLT.out; omega)
          have SMH := Lib.hid (sumh gh _ (l + m) (by have := HL2.out; omega) wr (ST2.out.kept hg hne) (HGL.out.below B3.out H2W.out))
          rw [HS.out] at SMH
          have lS := sha_len F2 HFB.out
          have bS := sha_byt F2
          have LS := Lib.hid lS
          have BS := Lib.hid bS
          generalize sha F2 = SS at *
          have IS := Lib.hid (show (Tryd.prog.info? 27).map (·.size) = some (bcells SS).size by rw [i27, bsize, LS.out])
          have ZS := Lib.hid (show Z27c.size = (bcells SS).size by rw [Z27c, bsize, bsize, LS.out, List.length_replicate])
          have OS := Lib.hid (bone SS)
          clear ho hg hzl hne B2 ST2 lS bS hj
          go_wp2_with fail
          refine SMH.out.mono ?_
          rintro e w4 ⟨rfl, hb4⟩
          have ST4 := Lib.hid (ST3.out.below hb4)
          have B4 : Hid (Below w.heap.size w w4) := B3.out.trans (hb4.mono B3.out.size)
          clear hb4 SMH
          go_wp2_with (refine wpList_store_row rfl 27 (.tmp 8) (.tmp 54) rfl w4.heap.size (bcells SS) rfl rfl 27 Z27c (heap_alloc_new w4 _) IS.out ZS.out OS.out ?_)
          have q5 : Below w4.heap.size w4 ((w4.alloc (.cells Z27c 27)).setRow w4.heap.size (bcells SS)) := ((Below.refl _ _).alloc (Nat.le_refl _) _).trans (below_row _ _ (Nat.le_refl _))
          have r5 : Row27 ((w4.alloc (.cells Z27c 27)).setRow w4.heap.size (bcells SS)) w4.heap.size SS := setRow_heap _ _ _ _ _ _ (heap_alloc_new w4 _)
          have RS5 := Lib.hid (sees27 r5 LS.out BS.out)
          have ST5 := Lib.hid (ST4.out.below q5)
          have B5 : Hid (Below w.heap.size w ((w4.alloc (.cells Z27c 27)).setRow w4.heap.size (bcells SS))) := B4.out.trans (q5.mono B4.out.size)
          clear q5 r5
          generalize ((w4.alloc (.cells Z27c 27)).setRow w4.heap.size (bcells SS)) = w5 at ST5 RS5 B5 ⊢
          have hkc := HKC.out
          have e1 : IntKind.i64.wrap ((k : Int) + 1) = (k : Int) + 1 := IntWalk.i64_in _ (by omega)
          have e2 : (0 : Int) ≤ (k : Int) + 1 := by omega
          have e3 : (k : Int) + 1 ≤ (c1 : Int) := by omega
          have e4 : ((k : Int) + 1).toNat = k + 1 := by omega
          refine wp_region_held_drew (S := fun W => Below w5.heap.size w5 W) (by kernel_rfl) (Below.refl _ _).drew (fun hS => ?_)
          refine' wpAnyH_take (i := 0) ?h1x0p ?hsx0p ?hfx0p ?hrx0p ?hQx0p (Or.inl ⟨?hwx0p, ?hyx0p⟩) hS ?restx0p
          case h1x0p => (simp only [List.getElem?_toArray, List.getElem?_cons_zero]; rfl)
          case hsx0p => kernel_rfl
          case hfx0p => kernel_rfl
          case hrx0p => kernel_rfl
          case hQx0p => exact fun _ _ _ h => h
          case hwx0p => rfl
          case hyx0p =>
            intro W hW
            go_simp
            try with_reducible rfl
          simp only [Act.put, List.setIfInBounds_toArray, List.set_cons_succ, List.set_cons_zero]
          refine' wpAnyH_take (i := 1) ?h1x1p ?hsx1p ?hfx1p ?hrx1p ?hQx1p (Or.inl ⟨?hwx1p, ?hyx1p⟩) hS ?restx1p
          case h1x1p => (simp only [List.getElem?_toArray, List.getElem?_cons_succ, List.getElem?_cons_zero]; rfl)
          case hsx1p => kernel_rfl
          case hfx1p => kernel_rfl
          case hrx1p => kernel_rfl
          case hQx1p => exact fun _ _ _ h => h
          case hwx1p => rfl
          case hyx1p =>
            intro W hW
            go_simp
            try with_reducible rfl
          simp only [Act.put, List.setIfInBounds_toArray, List.set_cons_succ, List.set_cons_zero]
          refine' wpAnyH_take (i := 2) ?h1x2p ?hsx2p ?hfx2p ?hrx2p ?hQx2p (Or.inl ⟨?hwx2p, ?hyx2p⟩) hS ?restx2p
          case h1x2p => (simp only [List.getElem?_toArray, List.getElem?_cons_succ, List.getElem?_cons_zero]; rfl)
          case hsx2p => kernel_rfl
          case hfx2p => kernel_rfl
          case hrx2p => kernel_rfl
          case hQx2p => exact fun _ _ _ h => h
          case hwx2p => rfl
          case hyx2p =>
            intro W hW
            go_simp
            try with_reducible rfl
          simp only [Act.put, List.setIfInBounds_toArray, List.set_cons_succ, List.set_cons_zero]
          refine' wpAnyH_take (i := 3) ?h1x3p ?hsx3p ?hfx3p ?hrx3p ?hQx3p (Or.inl ⟨?hwx3p, ?hyx3p⟩) hS ?restx3p
          case h1x3p => (simp only [List.getElem?_toArray, List.getElem?_cons_succ, List.getElem?_cons_zero]; rfl)
          case hsx3p => kernel_rfl
          case hfx3p => kernel_rfl
          case hrx3p => kernel_rfl
          case hQx3p => exact fun _ _ _ h => h
          case hwx3p => rfl
          case hyx3p =>
            intro W hW
            go_simp
            try with_reducible rfl
          simp only [Act.put, List.setIfInBounds_toArray, List.set_cons_succ, List.set_cons_zero]
          refine' wpAnyH_take (i := 4) ?h1x4p ?hsx4p ?hfx4p ?hrx4p ?hQx4p (Or.inl ⟨?hwx4p, ?hyx4p⟩) hS ?restx4p
          case h1x4p => (simp only [List.getElem?_toArray, List.getElem?_cons_succ, List.getElem?_cons_zero]; rfl)
          case hsx4p => kernel_rfl
          case hfx4p => kernel_rfl
          case hrx4p => kernel_rfl
          case hQx4p => exact fun _ _ _ h => h
          case hwx4p => rfl
          case hyx4p =>
            intro W hW
            go_simp
            try with_reducible rfl
          simp only [Act.put, List.setIfInBounds_toArray, List.set_cons_succ, List.set_cons_zero]
          refine' wpAnyH_take (i := 5) ?h1x5p ?hsx5p ?hfx5p ?hrx5p ?hQx5p (Or.inl ⟨?hwx5p, ?hyx5p⟩) hS ?restx5p
          case h1x5p => (simp only [List.getElem?_toArray, List.getElem?_cons_succ, List.getElem?_cons_zero]; rfl)
          case hsx5p => kernel_rfl
          case hfx5p => kernel_rfl
          case hrx5p => kernel_rfl
          case hQx5p => exact fun _ _ _ h => h
          case hwx5p => rfl
          case hyx5p =>
            intro W hW
            go_simp
            try with_reducible rfl
          simp only [Act.put, List.setIfInBounds_toArray, List.set_cons_succ, List.set_cons_zero]
          refine' wpAnyH_take (i := 6) ?h1x6p ?hsx6p ?hfx6p ?hrx6p ?hQx6p (Or.inl ⟨?hwx6p, ?hyx6p⟩) hS ?restx6p
          case h1x6p => (simp only [List.getElem?_toArray, List.getElem?_cons_succ, List.getElem?_cons_zero]; rfl)
          case hsx6p => kernel_rfl
          case hfx6p => kernel_rfl
          case hrx6p => kernel_rfl
          case hQx6p => exact fun _ _ _ h => h
          case hwx6p => rfl
          case hyx6p =>
            intro W hW
            go_simp
            try with_reducible rfl
          simp only [Act.put, List.setIfInBounds_toArray, List.set_cons_succ, List.set_cons_zero]
          refine' wpAnyH_take (i := 7) ?h1x7p ?hsx7p ?hfx7p ?hrx7p ?hQx7p (Or.inl ⟨?hwx7p, ?hyx7p⟩) hS ?restx7p
          case h1x7p => (simp only [List.getElem?_toArray, List.getElem?_cons_succ, List.getElem?_cons_zero]; rfl)
          case hsx7p => kernel_rfl
          case hfx7p => kernel_rfl
          case hrx7p => kernel_rfl
          case hQx7p => exact fun _ _ _ h => h
          case hwx7p => rfl
          case hyx7p =>
            intro W hW
            go_simp
            try with_reducible rfl
          simp only [Act.put, List.setIfInBounds_toArray, List.set_cons_succ, List.set_cons_zero]
          refine' wpAnyH_take (i := 8) ?h1x8p ?hsx8p ?hfx8p ?hrx8p ?hQx8p (Or.inl ⟨?hwx8p, ?hyx8p⟩) hS ?restx8p
          case h1x8p => (simp only [List.getElem?_toArray, List.getElem?_cons_succ, List.getElem?_cons_zero]; rfl)
          case hsx8p => kernel_rfl
          case hfx8p => kernel_rfl
          case hrx8p => kernel_rfl
          case hQx8p => exact fun _ _ _ h => h
          case hwx8p => rfl
          case hyx8p =>
            intro W hW
            have cs := (RS5.out.below hW).str
            go_simp
            try with_reducible rfl
          simp only [Act.put, List.setIfInBounds_toArray, List.set_cons_succ, List.set_cons_zero]
          refine' wpAnyH_take (i := 9) ?h1x9p ?hsx9p ?hfx9p ?hrx9p ?hQx9p (Or.inl ⟨?hwx9p, ?hyx9p⟩) hS ?restx9p
          case h1x9p => (simp only [List.getElem?_toArray, List.getElem?_cons_succ, List.getElem?_cons_zero]; rfl)
          case hsx9p => kernel_rfl
          case hfx9p => kernel_rfl
          case hrx9p => kernel_rfl
          case hQx9p => exact fun _ _ _ h => h
          case hwx9p => rfl
          case hyx9p =>
            intro W hW
            go_simp
            try with_reducible rfl
          simp only [Act.put, List.setIfInBounds_toArray, List.set_cons_succ, List.set_cons_zero]
          refine' wpAnyH_take (i := 10) ?h1x10p ?hsx10p ?hfx10p ?hrx10p ?hQx10p (Or.inl ⟨?hwx10p, ?hyx10p⟩) hS ?restx10p
          case h1x10p => (simp only [List.getElem?_toArray, List.getElem?_cons_succ, List.getElem?_cons_zero]; rfl)
          case hsx10p => kernel_rfl
          case hfx10p => kernel_rfl
          case hrx10p => kernel_rfl
          case hQx10p => exact fun _ _ _ h => h
          case hwx10p => rfl
          case hyx10p =>
            intro W hW
            go_simp
            try with_reducible rfl
          simp only [Act.put, List.setIfInBounds_toArray, List.set_cons_succ, List.set_cons_zero]
          refine' wpAnyH_take (i := 11) ?h1x11p ?hsx11p ?hfx11p ?hrx11p ?hQx11p (Or.inl ⟨?hwx11p, ?hyx11p⟩) hS ?restx11p
          case h1x11p => (simp only [List.getElem?_toArray, List.getElem?_cons_succ, List.getElem?_cons_zero]; rfl)
          case hsx11p => kernel_rfl
          case hfx11p => kernel_rfl
          case hrx11p => kernel_rfl
          case hQx11p => exact fun _ _ _ h => h
          case hwx11p => rfl
          case hyx11p =>
            intro W hW
            go_simp
            try with_reducible rfl
          simp only [Act.put, List.setIfInBounds_toArray, List.set_cons_succ, List.set_cons_zero]
          refine' wpAnyH_take (i := 12) ?h1x12p ?hsx12p ?hfx12p ?hrx12p ?hQx12p (Or.inl ⟨?hwx12p, ?hyx12p⟩) hS ?restx12p
          case h1x12p => (simp only [List.getElem?_toArray, List.getElem?_cons_succ, List.getElem?_cons_zero]; rfl)
          case hsx12p => kernel_rfl
          case hfx12p => kernel_rfl
          case hrx12p => kernel_rfl
          case hQx12p => exact fun _ _ _ h => h
          case hwx12p => rfl
          case hyx12p =>
            intro W hW
            go_simp
            try with_reducible rfl
          simp only [Act.put, List.setIfInBounds_toArray, List.set_cons_succ, List.set_cons_zero]
          refine wpAnyH_ready (rs := [13]) (by kernel_rfl) (by simp) ?_
          refine' AllReadyH.cons ?hoc13p (fun K hK => ?stc13p) AllReadyH.nil
          case hoc13p => (simp only [List.getElem?_toArray, List.getElem?_cons_succ, List.getElem?_cons_zero]; rfl)
          go_simp
          refine (DJ.out _ (HLk.out.below (B5.out.trans (hS.mono B5.out.size)))).mono ?_
          rintro e w6 ⟨x6, c6, rfl, ho6, hb⟩
          go_wp2_with fail
          refine hK.out _ _ (hS.trans (hb.mono hS.size)) (fun hHeld => ?_)
          clear hK K
          try simp only [Act.put, List.setIfInBounds_toArray, List.set_cons_succ, List.set_cons_zero]
          have B56 := Lib.hid hHeld
          refine more (S' := fun W => Below w6.heap.size w6 W) (fun W hW => B56.out.trans (hW.mono B56.out.size)) _ _ _ _ ?_
          have RJ6 := Lib.hid ho6.sees
          have RS6 := Lib.hid (RS5.out.below B56.out)
          have B06 : Hid (Below w.heap.size w w6) := B5.out.trans (B56.out.mono B5.out.size)
          have ST6 := Lib.hid (ST5.out.below B56.out)
          clear ho6
          clear hS hb hHeld
          have hS : Below w6.heap.size w6 w6 := Below.refl _ _
          refine wpAnyH_ready (rs := [14]) (by kernel_rfl) (by simp) ?_
          refine' AllReadyH.cons ?hoc14p (fun K hK => ?stc14p) AllReadyH.nil
          case hoc14p => (simp only [List.getElem?_toArray, List.getElem?_cons_succ, List.getElem?_cons_zero]; rfl)
          go_simp
          refine (DS.out _ _ (RJ6.out.below hS)).mono ?_
          rintro e w7 ⟨x7, c7, rfl, ho7, hb⟩
          go_wp2_with fail
          refine hK.out _ _ (hS.trans (hb.mono hS.size)) (fun hHeld => ?_)
          clear hK K
          try simp only [Act.put, List.setIfInBounds_toArray, List.set_cons_succ, List.set_cons_zero]
          have B67 := Lib.hid hHeld
          refine more (S' := fun W => Below w7.heap.size w7 W) (fun W hW => B67.out.trans (hW.mono B67.out.size)) _ _ _ _ ?_
          have RS7 := Lib.hid ho7.sees
          have B07 : Hid (Below w.heap.size w w7) := B06.out.trans (B67.out.mono B06.out.size)
          have ST7 := Lib.hid (ST6.out.below B67.out)
          clear ho7
          clear hS hb hHeld
          have hS : Below w7.heap.size w7 w7 := Below.refl _ _
          refine' wpAnyH_take (i := 15) ?h1x15p ?hsx15p ?hfx15p ?hrx15p ?hQx15p (Or.inl ⟨?hwx15p, ?hyx15p⟩) hS ?restx15p
          case h1x15p => (simp only [List.getElem?_toArray, List.getElem?_cons_succ, List.getElem?_cons_zero]; rfl)
          case hsx15p => kernel_rfl
          case hfx15p => kernel_rfl
          case hrx15p => kernel_rfl
          case hQx15p => exact fun _ _ _ h => h
          case hwx15p => rfl
          case hyx15p =>
            intro W hW
            have cs := (RS7.out.below hW).str
            go_simp
            try with_reducible rfl
          simp only [Act.put, List.setIfInBounds_toArray, List.set_cons_succ, List.set_cons_zero]
          refine' wpAnyH_take (i := 16) ?h1x16p ?hsx16p ?hfx16p ?hrx16p ?hQx16p (Or.inl ⟨?hwx16p, ?hyx16p⟩) hS ?restx16p
          case h1x16p => (simp only [List.getElem?_toArray, List.getElem?_cons_succ, List.getElem?_cons_zero]; rfl)
          case hsx16p => kernel_rfl
          case hfx16p => kernel_rfl
          case hrx16p => kernel_rfl
          case hQx16p => exact fun _ _ _ h => h
          case hwx16p => rfl
          case hyx16p =>
            intro W hW
            go_simp
            try with_reducible rfl
          simp only [Act.put, List.setIfInBounds_toArray, List.set_cons_succ, List.set_cons_zero]
          refine' wpAnyH_take (i := 17) ?h1x17p ?hsx17p ?hfx17p ?hrx17p ?hQx17p (Or.inl ⟨?hwx17p, ?hyx17p⟩) hS ?restx17p
          case h1x17p => (simp only [List.getElem?_toArray, List.getElem?_cons_succ, List.getElem?_cons_zero]; rfl)
          case hsx17p => kernel_rfl
          case hfx17p => kernel_rfl
          case hrx17p => kernel_rfl
          case hQx17p => exact fun _ _ _ h => h
          case hwx17p => rfl
          case hyx17p =>
            intro W hW
            go_simp
            try with_reducible rfl
          simp only [Act.put, List.setIfInBounds_toArray, List.set_cons_succ, List.set_cons_zero]
          refine wpAnyH_done (by kernel_rfl) ?_ _
          clear e1 e2 e3 e4 hkc
          go_wp2_with fail
          have B8 := Lib.hid (B07.out.trans (hS.mono B07.out.size))
          have ST8 := Lib.hid (ST7.out.below hS)
          go_roundw
          case rel => exact ⟨k + 1, l + m, by omega, by go_num, by rw [HL2.out, HF2E.out], by have h := ST8.out; rw [HPP.out] at h; exact h, B8.out⟩
          case measure => simp [intOf]; omega
    · have hst := hst
      -- behind all texts
      have HB := Lib.hid hb
      clear hb hst hk hll
      obtain ⟨ZH, hZH⟩ : ∃ Z, Z = hcells false (List.replicate 8 0) (List.replicate 64 0) 0 0 := ⟨_, rfl⟩
      have hz : ∀ w, (zeroValue 44).run Tryd.prog w = .ok (.agg ZH) w := by rw [hZH]; exact fun _ => by kernel_rfl
      have h0z : (wr.alloc (.cells ZH 44)).cell? ⟨wr.heap.size, 0, none⟩ = some (.bool false) := by rw [cell_of_row _ _ 0 _ _ _ (heap_alloc_new wr _), hZH]; rfl
      have H0Z := Lib.hid h0z
      have lz := Lib.hid (World.block_lt_of_cell? _ _ h0z)
      clear hZH h0z
      have hlast : ¬ (k : Int) < n := by omega
      go_wp2_with fail
      refine (sum_nil (wr.alloc (.cells ZH 44))).mono ?_
      rintro e w1 ⟨rfl, hb⟩
      have c1 := (hb.cell (p := ⟨wr.heap.size, 0, none⟩) lz.out).trans H0Z.out
      have B1 : Hid (Below w.heap.size w w1) := (HB.out.alloc HB.out.size _).trans (hb.mono (by have := HB.out.size; simp; omega))
      clear hb H0Z lz hz
      have C1 := Lib.hid c1
      clear c1
      go_wp2_with (refine wpList_store_row rfl 27 (.tmp 12) (.tmp 77) rfl w1.heap.size Z27c rfl rfl 27 Z27c (heap_alloc_new w1 _) IZ.out rfl OZ.out ?_)
      have q2 : Below w1.heap.size w1 ((w1.alloc (.cells Z27c 27)).setRow w1.heap.size Z27c) := ((Below.refl _ _).alloc (Nat.le_refl _) _).trans (below_row _ _ (Nat.le_refl _))
      have lz1 := World.block_lt_of_cell? _ _ C1.out
      have C2 := Lib.hid ((q2.cell (p := ⟨wr.heap.size, 0, none⟩) lz1).trans C1.out)
      have B2 : Hid (Below w.heap.size w ((w1.alloc (.cells Z27c 27)).setRow w1.heap.size Z27c)) := B1.out.trans (q2.mono B1.out.size)
      clear q2 C1 B1 lz1
      refine (sum_zero wr.heap.size _ C2.out).mono ?_
      rintro e w3 ⟨rfl, hb⟩
      have C3 := Lib.hid ((hb.cell (p := ⟨wr.heap.size, 0, none⟩) (World.block_lt_of_cell? _ _ C2.out)).trans C2.out)
      have B3 : Hid (Below w.heap.size w w3) := B2.out.trans (hb.mono B2.out.size)
      clear hb C2 B2
      go_wp2_with (refine wpList_store_row rfl 27 (.tmp 14) (.tmp 81) rfl w3.heap.size Z27c rfl rfl 27 Z27c (heap_alloc_new w3 _) IZ.out rfl OZ.out ?_)
      have q4 : Below w3.heap.size w3 ((w3.alloc (.cells Z27c 27)).setRow w3.heap.size Z27c) := ((Below.refl _ _).alloc (Nat.le_refl _) _).trans (below_row _ _ (Nat.le_refl _))
      have C4 := Lib.hid ((q4.cell (p := ⟨wr.heap.size, 0, none⟩) (World.block_lt_of_cell? _ _ C3.out)).trans C3.out)
      have B4 : Hid (Below w.heap.size w ((w3.alloc (.cells Z27c 27)).setRow w3.heap.size Z27c)) := B3.out.trans (q4.mono B3.out.size)
      clear q4 C3 B3
      refine (alive _ (HGL.out.below B4.out H2W.out)).mono ?_
      rintro e w5 ⟨rfl, hb⟩
      have c5 := (hb.cell (p := ⟨wr.heap.size, 0, none⟩) (World.block_lt_of_cell? _ _ C4.out)).trans C4.out
      have B5 : Hid (Below w.heap.size w w5) := B4.out.trans (hb.mono B4.out.size)
      clear hb C4 B4
      have C5 := Lib.hid c5
      clear c5
      go_wp2_with fail
      refine (write_nil _ _).mono ?_
      rintro e w6 ⟨rfl, rfl⟩
      go_wp2_with fail
      refine (write_zero _ wr.heap.size _ C5.out).mono ?_
      rintro e w6 ⟨rfl, rfl⟩
      go_wp2_with fail
      go_ret
      exact ⟨rfl, B5.out⟩
theorem walkI (vb : Value) (yss : List (List Int)) (w : World) (hG : Glob w) (hb : SeesM w vb yss) :
    Calls Tryd.prog 4 #[vb] w fun e w' => e = .returned (.bool true) ∧ Below w.heap.size w w' := by
  cases h : greatB yss with
  | true => exact walk_great vb yss w hG hb h
  | false => exact walk vb yss w hG hb h

set_option maxRecDepth 100000 in
theorem lifted (os : Os) (started : os.Started) (H : Type) (enc : TypeId × Value → H) :
    ReturnsInHanded {} Tryd.checked os 4 .any (fun w args => (Rows.shaWritesSpec.pre enc Tryd.prog Tryd.f4 [] false w args ∧ laidMetH Tryd.prog laid2 w) ∧ sizedMet enc Tryd.prog Tryd.f4 (OpenSpec.ofChange Rows.shaWritesSpec) false w args)
      (Rows.shaWritesSpec.post enc Tryd.prog Tryd.f4 false true false false) := by
  refine returnsInHanded_of_change_and (C := Tryd.checked) (X := fun w _ => laidMetH Tryd.prog laid2 w) (fun _ _ _ hh h => h.of_heap hh) own started (by kernel_rfl) Tryd.func4
    (ChangeSpec.witness_shaped (enc := enc) (C := Tryd.checked) (os := os) (X := fun w _ => laidMetH Tryd.prog laid2 w) false (World.doorLaid Tryd.prog 400 os) #[.slice none 0 0] 8 rfl (World.shaped_of_RefB (by kernel_rfl) (by kernel_rfl)) (by kernel_rfl) (by kernel_rfl) (by kernel_rfl) (door_met os _)) ?_
  intro W base args ds gs before hval0 hW _ _ hL _
  have hval : ∀ (j : Nat) t v, Tryd.f4.params[j]? = some t → args[j]? = some v → Value.okWide Tryd.prog W .any base t v := hval0
  have hW' := hW
  obtain ⟨p, q, hA0, hV, rfl, hfz, hnd⟩ := hW
  have hA : DataW.TrodAll enc Tryd.prog W 0 (fun _ => true) true Tryd.f4.params.toList args.toList ds p := hA0
  rw [Tryd.params4] at hA hval
  obtain ⟨v0, vs0, d0, ds0, p0, q0, hargs, rfl, rfl, h0, r0⟩ := trodAll_cons hA
  obtain ⟨rfl, rfl, rfl⟩ := trodAll_nil r0
  obtain rfl : args = #[v0] := by cases args; simp_all
  obtain ⟨rfl, rfl⟩ := trodVars_none hV
  obtain ⟨x0, s0⟩ := open_texts (hval 0 23 v0 rfl rfl) h0
  refine (walkI v0 x0 W (of_laid hL) s0).mono fun e W' ⟨he, hb⟩ => ?_
  subst he
  exact ⟨_, rfl, law_post hW' rfl rfl rfl (by kernel_rfl) hb⟩
/-- The row's statement. -/
theorem row_holds : Rows.ShaWritesSaid :=
  OpenClaim.holds_of_wide 4 Tryd.f4 rfl rfl rfl rfl rfl rfl rfl ⟨rfl, rfl, rfl, rfl, rfl⟩ rfl rfl rfl rfl rfl (by kernel_rfl) Tryd.func4 (by kernel_rfl)
    (of_decide_eq_true (by kernel_rfl)) (by unfold Func.isWrapper; first | (rw [if_pos (by decide +kernel)]; kernel_rfl) | (rw [if_neg (by decide +kernel)]; exact ⟨rfl, rfl⟩))
    (fun os started H enc _ => lifted os started H enc)
/-- The tied card. -/
theorem proved : Rows.ShaWritesCardSaid :=
  Claim7.holds_tied_plain_at .later [] [.data, .data] true (true, "c1a692658ed27d6b705437531a4023b4f004fc9067d80523147904b9ccf5c916") false
    row_holds (fun _ h => by cases h) (by kernel_rfl) (fun _ h => by cases h) shaWrites_row_tie rfl ⟨rfl, rfl⟩ (by kernel_rfl) rfl
    (fun f fn hf hfn => by
      obtain rfl : f = 4 := Option.some.inj ((show Tryd.prog.funcNamed "casemate/casematelaw02.ShaWrites" = some 4 by kernel_rfl).symm.trans hf) |>.symm
      obtain rfl : fn = Tryd.f4 := (Option.some.inj (Tryd.func4.symm.trans hfn)).symm
      exact ⟨by kernel_rfl, fun j t ht => by
        rw [Tryd.params4] at ht
        have hm : t ∈ [23] := by simpa using Array.mem_of_getElem? ht
        have hall : ([23].all fun u => !Tryd.prog.wantsStandIn u) = true := by kernel_rfl
        exact (show Tryd.prog.wantsStandIn t = false by simpa using List.all_eq_true.1 hall t hm)⟩)
    (by kernel_rfl)
#print axioms proved
end Go.Proofs.YtmkaagiabafooaaDoor.shaWrites
