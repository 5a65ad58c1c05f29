/-
  Contracts of the functions that the statements of package sha go through: the sum of what a hash took in. Condition: the hash is whole, and took in fewer than 2^56 bytes.
-/
import Derived.Test.YtjdamlmoegippaaDoorHlAdd
import Derived.IntWalk
namespace Go.Proofs.YtjdamlmoegippaaDoor.hl
open Go.RowKit
theorem len27 : Tryd.prog.arrayLen 24 = 32 := by kernel_rfl
theorem und27 : Tryd.prog.underlying 24 = some (.array (Tryd.prog.arrayLen 24) (Tryd.prog.elem 24)) := by kernel_rfl
theorem size27 (W : World) : (sizeOf (Tryd.prog.elem 24)).run Tryd.prog W = .ok 1 W := by kernel_rfl
/-- 'a[n:]' of an array of 32 bytes. -/
theorem arr32_from (g n : Nat) (z : Int) (hz : z = n) (hn : n < 32) (W : World) : (Instr.sliceAt 24 (.pointer (some ⟨g, 0, none⟩)) (some (.int .i64 z)) none none).run Tryd.prog W = .ok (.slice (some ⟨g, n, none⟩) (32 - n) (32 - n)) W := by
  subst hz
  rw [run_sliceAt_array_l W 24 ⟨g, 0, none⟩ und27 .i64 n (by omega) (by rw [len27]; omega), size27]
  simp only [Result.andThen, slicedAt, len27, Int.toNat_natCast, Nat.mul_one, addr_add]
  rw [if_neg (by omega), Nat.zero_add]
theorem idx40 (H : List Int) (hH : H.length = 8) (k : Nat) (hk : k < 8) (w : World) : (Instr.index 127 (.agg (ucells H)) (.int .i64 k)).run Tryd.prog w = .ok (.int .u32 (nth H k)) w := by
  have hc : (ucells H)[k]? = some (.int .u32 (nth H k)) := by simp [ucells, nth, List.getD, hH, hk]
  simp [Instr.index, run_underlying Tryd.underlying127, asIntOf, part, hk, hc]
theorem bspl (L : List Int) (o : Nat) (ys : List Int) : ((bcells L).toList.take o ++ ys.map (Value.int .u8) ++ (bcells L).toList.drop (o + ys.length)).toArray = bcells (spl L o ys) := by
  simp [bcells, spl, List.map_take, List.map_drop]
/-- The sum's bytes when so many numbers are written. -/
def rowS (H : List Int) (i : Nat) : List Int := ((H.take i).map (be 4)).flatten ++ List.replicate (32 - 4 * i) 0
theorem rowS_len (H : List Int) (hH : H.length = 8) (i : Nat) (hi : i ≤ 8) : (rowS H i).length = 32 := by
  unfold rowS
  rw [List.length_append, flat_len, List.length_take, List.length_replicate]; omega
theorem rowS_next (H : List Int) (hH : H.length = 8) (i : Nat) (hi : i < 8) : spl (rowS H i) (4 * i) (be 4 (nth H i)) = rowS H (i + 1) := by
  have hl : (((H.take i).map (be 4)).flatten).length = 4 * i := by rw [flat_len, List.length_take]; omega
  unfold spl rowS
  rw [List.take_left' hl, be_len, take_snoc H i (by omega), List.map_append, List.flatten_append]
  have e : (((H.take i).map (be 4)).flatten ++ List.replicate (32 - 4 * i) 0).drop (4 * i + 4) = List.replicate (32 - 4 * (i + 1)) (0 : Int) := by
    rw [← hl, List.drop_length_add_append, List.drop_replicate, hl]
    congr 1
  rw [e]
  simp
theorem rowS_end (H : List Int) (hH : H.length = 8) : rowS H 8 = (H.map (be 4)).flatten := by
  unfold rowS
  rw [List.take_of_length_le (by omega)]
  simp
theorem zv27 : ∀ w, (zeroValue 24).run Tryd.prog w = .ok (.agg (bcells (List.replicate 32 0))) w := fun _ => by kernel_rfl
theorem zv41 : ∀ w, (zeroValue 92).run Tryd.prog w = .ok (.agg (bcells (List.replicate 64 0))) w := fun _ => by kernel_rfl
theorem i27 : (Tryd.prog.info? 24).map (·.size) = some 32 := by kernel_rfl
theorem bsize (L : List Int) : (bcells L).size = L.length := by simp [bcells]
theorem bone (L : List Int) : (bcells L).all (·.oneCell') = true := by simp [bcells, Value.oneCell']
/-- Bytes in the middle of a row. -/
theorem sees_front (w : World) (g : Nat) (xs zs : List Int) (hb : Byt xs) (t : TypeId) (h : w.heap[g]? = some (.cells (bcells (xs ++ zs)) t (0, 0))) (n cap : Nat) (hn : n = xs.length) (h0 : xs ≠ []) (hc : n ≤ cap) (hm : cap ≤ maxLen) : Sees w (.slice (some ⟨g, 0, none⟩) n cap) xs := by
  subst hn
  refine ⟨hb, .inr (.inr ⟨_, _, _, rfl, h0, hc, hm, fun i hi => ?_⟩)⟩
  rw [cell_of_row _ _ _ _ _ _ h, Nat.zero_add]
  simp only [bcells, List.getElem?_toArray, List.map_append]
  rw [List.getElem?_append_left (by simpa using hi)]
  simp [nth, hi, List.getD]
theorem fill_r (c : Nat) (hc : c ≤ 72057594037927936) : ∃ x r : Nat, r = (119 - c % 64) % 64 ∧ r < 64 ∧ (55 - (c : Int)) % 18446744073709551616 = (x : Int) ∧ IntKind.u64.wrap (55 - (c : Int)) = (x : Int) ∧ (x : Int) % 64 = (r : Int) := by
  refine ⟨((55 - (c : Int)) % 18446744073709551616).toNat, (119 - c % 64) % 64, rfl, by omega, by omega, ?_, by omega⟩
  have e : IntKind.u64.wrap (55 - (c : Int)) = (55 - (c : Int)) % 18446744073709551616 := by simp [IntKind.wrap, IntKind.bits, IntKind.signed]
  rw [e]; omega
set_option maxRecDepth 100000 in
set_option maxHeartbeats 4000000 in
theorem end_ (s : HSt) (hs : s.ok) (c : Nat) (hc : c ≤ 72057594037927936) (w : World) (hG : Glob w) :
    Calls Tryd.prog 65 #[.agg (hcells true s.H s.B s.n c)] w fun e w' => e = .returned (.agg (bcells (sumOf s c))) ∧ Below w.heap.size w w' := by
  have hsz := hG.lt
  have z27 := zv27
  have z41 := zv41
  generalize hZ27 : bcells (List.replicate 32 0) = Z27 at z27
  generalize hZ41 : bcells (List.replicate 64 0) = Z41 at z41
  have HZ27 := Lib.hid hZ27
  have HZ41 := Lib.hid hZ41
  have HS := Lib.hid hs
  have HGL := Lib.hid hG
  have HSZ := Lib.hid hsz
  obtain ⟨hH, hHu, hB, hBb, hn⟩ := hs
  obtain ⟨HC, hHC⟩ : ∃ C, C = hcells true s.H s.B s.n c := ⟨_, rfl⟩
  rw [← hHC]
  have HHC := Lib.hid hHC
  have b0 : ((w.alloc (.cells HC 129)).alloc (.cells Z27 24)).heap[w.heap.size]? = some (.cells (hcells true s.H s.B s.n c) 129 (0, 0)) := by
    rw [Below.heap_alloc _ _ _ (by simp), ← hHC]; exact heap_alloc_new w _
  have b1 : ((w.alloc (.cells HC 129)).alloc (.cells Z27 24)).heap[w.heap.size + 1]? = some (.cells Z27 24 (0, 0)) := heap_alloc2_new w _ _
  have hB1 : Below w.heap.size w ((w.alloc (.cells HC 129)).alloc (.cells Z27 24)) := ((Below.refl _ _).alloc (Nat.le_refl _) _).alloc (by simp) _
  have c74 := (cell_of_row _ _ 74 _ _ _ b0).trans (h_count true (s.n : Int) (c : Int) hH hB)
  have hcb : (c : Int) ≤ 72057594037927936 := by omega
  have B0 := Lib.hid b0
  have B1 := Lib.hid b1
  have BW := Lib.hid hB1
  have PT := Lib.hid (putb64 (8 * (c : Int)) (by omega) (by omega))
  clear hZ27 hZ41 hG hsz hHC b0 b1 hB1
  go_enter Tryd.func65, Tryd.ntmps65
  go_wp2_with fail
  refine (PT.out _).mono ?_
  rintro e w1 ⟨q, rfl, hsd, hb, hq⟩
  have k0 : w1.heap[w.heap.size]? = some (.cells (hcells true s.H s.B s.n c) 129 (0, 0)) := by rw [hb.block _ (by simp; omega)]; exact B0.out
  have k1 : w1.heap[w.heap.size + 1]? = some (.cells Z27 24 (0, 0)) := by rw [hb.block _ (by simp)]; exact B1.out
  have hbw : Below w.heap.size w w1 := BW.out.trans (hb.mono (by simp; omega))
  have hz1 : w.heap.size + 2 ≤ w1.heap.size := by have := hb.size; simpa using this
  have hq2 : w.heap.size + 2 ≤ q := by simpa using hq
  have SD := Lib.hid hsd
  have K0 := Lib.hid k0
  have K1 := Lib.hid k1
  have BW1 := Lib.hid hbw
  have HZ1 := Lib.hid hz1
  have HQ := Lib.hid hq2
  have hz41 : Z41[0]? = some (.int .u8 0) := by rw [← HZ41.out]; simp [bcells]
  have cz := (cell_of_row _ _ 0 _ _ _ (heap_alloc_new w1 (.cells Z41 92))).trans hz41
  have fz := frozen_of_row _ w1.heap.size 0 _ 92 (heap_alloc_new w1 (.cells Z41 92))
  clear hsd hb hq k0 k1 hbw hz1 hq2 c74
  obtain ⟨x, r, hr, hr64, hx1, hx2, hx3⟩ := fill_r c hc
  have hsl : ∀ W, (Instr.sliceAt 92 (.pointer (some ⟨w1.heap.size, 0, none⟩)) none (some (.int .u64 (1 + (r : Int)))) none).run Tryd.prog W = .ok (.slice (some ⟨w1.heap.size, 0, none⟩) (1 + r) 64) W := fun W => by
    rw [show (1 + (r : Int)) = ((1 + r : Nat) : Int) by omega]; exact arr_to _ 0 _ (by omega) W
  have hr64i : (r : Int) ≤ 63 := by omega
  have hr0i : (0 : Int) ≤ r := by omega
  have d74 : (w1.alloc (.cells (Z41.setIfInBounds 0 (.int .u8 128)) 92)).cell? ⟨w.heap.size, 74, none⟩ = some (.int .u64 c) := by
    have h := (cell_of_row _ _ 74 _ _ _ K0.out).trans (h_count true (s.n : Int) (c : Int) hH hB)
    rw [World.cell?_alloc_lt _ _ _ (by have := HZ1.out; simp; omega)]; exact h
  have HR := Lib.hid hr
  clear hr
  have hN2 : 2 ≤ w.heap.size := by have := HSZ.out; omega
  have hW2 : Below w1.heap.size w1 (w1.alloc (.cells (Z41.setIfInBounds 0 (.int .u8 128)) 92)) := (Below.refl _ _).alloc (Nat.le_refl _) _
  have hrow : (w1.alloc (.cells (Z41.setIfInBounds 0 (.int .u8 128)) 92)).heap[w1.heap.size]? = some (.cells (bcells ((128 :: List.replicate r 0) ++ List.replicate (63 - r) 0)) 92 (0, 0)) := by
    rw [heap_alloc_new w1 _, ← HZ41.out]
    have e : (bcells (List.replicate 64 0)).setIfInBounds 0 (.int .u8 128) = bcells ((128 :: List.replicate r 0) ++ List.replicate (63 - r) 0) := by
      have e1 : List.replicate 64 (0 : Int) = 0 :: (List.replicate r 0 ++ List.replicate (63 - r) 0) := by
        rw [List.replicate_append_replicate, show r + (63 - r) = 63 by omega]; rfl
      rw [e1]; simp [bcells]
    rw [e]
  have hpb : Byt (128 :: List.replicate r 0) := fun y hy => by
    simp only [List.mem_cons, List.mem_replicate] at hy
    omega
  have hsee := sees_front _ w1.heap.size (128 :: List.replicate r 0) _ hpb 92 hrow (1 + r) 64 (by simp; omega) (by simp) (by omega) (by decide)
  have hst : HSat (w1.alloc (.cells (Z41.setIfInBounds 0 (.int .u8 128)) 92)) w.heap.size s (c : Int) := ⟨HS.out, by
    rw [hW2.block _ (blk_lt K0.out)]; exact K0.out⟩
  have hgl : Glob (w1.alloc (.cells (Z41.setIfInBounds 0 (.int .u8 128)) 92)) := HGL.out.below (BW1.out.trans (hW2.mono BW1.out.size)) hN2
  have hsd2 : Sees (w1.alloc (.cells (Z41.setIfInBounds 0 (.int .u8 128)) 92)) (.slice (some ⟨q, 0, none⟩) 8 8) (be 8 (8 * (c : Int))) := SD.out.below hW2
  have hbelW : Below w.heap.size w (w1.alloc (.cells (Z41.setIfInBounds 0 (.int .u8 128)) 92)) := BW1.out.trans (hW2.mono BW1.out.size)
  have hszW : (w1.alloc (.cells (Z41.setIfInBounds 0 (.int .u8 128)) 92)).heap.size = w1.heap.size + 1 := by simp
  have hk1 : (w1.alloc (.cells (Z41.setIfInBounds 0 (.int .u8 128)) 92)).heap[w.heap.size + 1]? = some (.cells Z27 24 (0, 0)) := by rw [hW2.block _ (blk_lt K1.out)]; exact K1.out
  have AD := Lib.hid (add w.heap.size s c _ _ _ hst hsee (by intro _; simp [Value.ownBlock]; have := HZ1.out; omega) (by simp; omega) hN2 hgl)
  have HGL2 := Lib.hid hgl
  have SD2 := Lib.hid hsd2
  have BW2 := Lib.hid hbelW
  have HSZW := Lib.hid hszW
  have HK1 := Lib.hid hk1
  have HN2 := Lib.hid hN2
  clear hW2 hrow hpb hsee hst hgl hsd2 hbelW hszW hk1 hN2
  go_wp2_with fail
  clear hsl d74 hx1 hx2 hx3 cz fz
  refine AD.out.mono ?_
  rintro e w2 ⟨rfl, hst2, hg2⟩
  have hgl2 : Glob w2 := HGL2.out.grown hg2 (fun k e => by rw [← Option.some.inj e]; exact HN2.out)
  have hsd3 : Sees w2 (.slice (some ⟨q, 0, none⟩) 8 8) (be 8 (8 * (c : Int))) := SD2.out.grown hg2 (fun k e => by rw [← Option.some.inj e]; simp [Value.ownBlock]; have := HQ.out; omega)
  have hl2 : c + (128 :: List.replicate r 0 : List Int).length = c + (1 + r) := by simp; omega
  rw [hl2] at hst2
  have AD2 := Lib.hid (add w.heap.size _ (c + (1 + r)) _ _ _ hst2 hsd3 (by intro _; simp [Value.ownBlock]; have := HQ.out; omega) (by rw [be_len]; omega) HN2.out hgl2)
  have HG2 := Lib.hid hg2
  clear hgl2 hsd3 hl2 hst2 hg2
  go_wp2_with fail
  refine AD2.out.mono ?_
  rintro e w3 ⟨rfl, hst3, hg3⟩
  have hpp : puts (puts s (128 :: List.replicate r 0)) (be 8 (8 * (c : Int))) = puts s (tail c) := by rw [← puts_append, HR.out]; rfl
  rw [hpp] at hst3
  obtain ⟨hok3, hrow3⟩ := hst3
  generalize hs3 : puts s (tail c) = s3 at *
  have hsum : sumOf s c = (s3.H.map (be 4)).flatten := by rw [← hs3]; rfl
  have HSUM := Lib.hid hsum
  obtain ⟨hH3, hHu3, hB3, _, _⟩ := hok3
  have hgg := HG2.out.trans hg3
  have hk13 : w3.heap[w.heap.size + 1]? = some (.cells Z27 24 (0, 0)) := by rw [hgg.block _ (blk_lt HK1.out) (by simp)]; exact HK1.out
  have hb3 : Below w.heap.size w w3 := BW2.out.grown hgg BW2.out.size (fun k e => by rw [← Option.some.inj e]; exact Nat.le_refl _)
  have rH : (w3.alloc (.cells Z27 24)).rangeAt w.heap.size 1 (ucells s3.H).toList := World.rangeAt_alloc (range_H hH3 hrow3) _
  have lH : (Tryd.prog.info? 127).map (·.size) = some (ucells s3.H).toList.length := by
    have : (Tryd.prog.info? 127).map (·.size) = some 8 := by kernel_rfl
    rw [this]; simp [ucells, hH3]
  have hsz3 : w.heap.size + 2 ≤ w3.heap.size := by have h1 := hgg.size; have h2 := HSZW.out; have h3 := HZ1.out; omega
  have RH := Lib.hid rH
  have LH := Lib.hid lH
  have HK13 := Lib.hid hk13
  have HB3 := Lib.hid hb3
  have HSZ3 := Lib.hid hsz3
  clear hs3 hsum hgg hk13 hb3 rH lH hsz3 hpp hrow3 hg3 hB3
  go_wp2_with (refine wpList_load_mid rfl 127 (.tmp 22) rfl w.heap.size 1 rfl (ucells s3.H).toList _ RH.out Tryd.underlying127 rfl LH.out ?_)
  go_loopw [24] (fun vi wr => ∃ i : Nat, i ≤ 8 ∧ vi = .int .i64 i ∧ wr.heap[w.heap.size + 1]? = some (.cells Z27 24 (0, 0)) ∧ wr.heap[w3.heap.size]? = some (.cells (bcells (rowS s3.H i)) 24 (0, 0)) ∧ Below w.heap.size w wr) (fun vi _ => 8 - (intOf vi).toNat)
  case atStart =>
    refine ⟨0, by omega, rfl, ?_, ?_, HB3.out.alloc HB3.out.size _⟩
    · rw [Below.heap_alloc _ _ _ (blk_lt HK13.out)]; exact HK13.out
    · rw [heap_alloc_new w3 _, ← HZ27.out]; rfl
  case round =>
    clear RH LH HK13 HB3
    obtain ⟨i, hi, rfl, h1, h2, hbel⟩ := hrel
    by_cases hlt : i < 8
    · have hbnd := hHu3.nth i
      have hix := idx40 s3.H hH3 i hlt
      have hz4 : 4 * (i : Int) = ((4 * i : Nat) : Int) := by omega
      have hwr4 : IntKind.i64.wrap (4 * (i : Int)) = 4 * (i : Int) := IntWalk.i64_in _ (by omega)
      have hsl := arr32_from w3.heap.size (4 * i) (4 * (i : Int)) hz4 (by omega)
      have HNX := Lib.hid (rowS_next s3.H hH3 i hlt)
      have PT4 := Lib.hid (putb32 (nth s3.H i) hbnd.1 hbnd.2)
      generalize nth s3.H i = hv at *
      have H1 := Lib.hid h1
      have H2 := Lib.hid h2
      have HB := Lib.hid hbel
      clear h1 h2 hbel hz4 hbnd
      go_wp2_with fail
      refine wp_region_any (by kernel_rfl) ?_
      change wpAny _ _ _ _ _ _ _ (World.drew _)
      refine' wpAny_take (i := 0) ?h1x0 ?hsx0 ?hfx0 ?hrx0 ?hQx0 (Or.inl ⟨?hwx0, ?hyx0⟩) ?restx0
      case h1x0 => (simp only [List.getElem?_toArray, List.getElem?_cons_zero]; rfl)
      case hsx0 | hfx0 | hrx0 => kernel_rfl
      case hQx0 => exact fun _ _ _ h => h
      case hwx0 => rfl
      case hyx0 =>
        intro W
        go_simp
        try with_reducible rfl
      simp only [Act.put, List.setIfInBounds_toArray, List.set_cons_succ, List.set_cons_zero]
      refine' wpAny_take (i := 1) ?h1x1 ?hsx1 ?hfx1 ?hrx1 ?hQx1 (Or.inl ⟨?hwx1, ?hyx1⟩) ?restx1
      case h1x1 => (simp only [List.getElem?_toArray, List.getElem?_cons_succ, List.getElem?_cons_zero]; rfl)
      case hsx1 | hfx1 | hrx1 => kernel_rfl
      case hQx1 => exact fun _ _ _ h => h
      case hwx1 => rfl
      case hyx1 =>
        intro W
        go_simp
        try with_reducible rfl
      simp only [Act.put, List.setIfInBounds_toArray, List.set_cons_succ, List.set_cons_zero]
      refine' wpAny_take (i := 3) ?h1x3 ?hsx3 ?hfx3 ?hrx3 ?hQx3 (Or.inl ⟨?hwx3, ?hyx3⟩) ?restx3
      case h1x3 => (simp only [List.getElem?_toArray, List.getElem?_cons_succ, List.getElem?_cons_zero]; rfl)
      case hsx3 | hfx3 | hrx3 => kernel_rfl
      case hQx3 => exact fun _ _ _ h => h
      case hwx3 => rfl
      case hyx3 =>
        intro W
        go_simp
        try with_reducible rfl
      simp only [Act.put, List.setIfInBounds_toArray, List.set_cons_succ, List.set_cons_zero]
      refine' wpAny_take (i := 2) ?h1x2 ?hsx2 ?hfx2 ?hrx2 ?hQx2 (Or.inl ⟨?hwx2, ?hyx2⟩) ?restx2
      case h1x2 => (simp only [List.getElem?_toArray, List.getElem?_cons_succ, List.getElem?_cons_zero]; rfl)
      case hsx2 | hfx2 | hrx2 => kernel_rfl
      case hQx2 => exact fun _ _ _ h => h
      case hwx2 => rfl
      case hyx2 =>
        intro W
        go_simp
        try with_reducible rfl
      simp only [Act.put, List.setIfInBounds_toArray, List.set_cons_succ, List.set_cons_zero]
      refine wpAny_ready (rs := [4]) (by kernel_rfl) (by simp) ?_
      refine' AllReady.cons ?hoc4 (fun K hK => ?stc4) AllReady.nil
      case hoc4 => (simp only [List.getElem?_toArray, List.getElem?_cons_succ, List.getElem?_cons_zero]; rfl)
      go_simp
      refine (PT4.out _).mono ?_
      rintro e w4 ⟨p, rfl, hs4, hb4, hp4⟩
      go_wp2_with fail
      have hrl := rowS_len s3.H hH3 i (by omega)
      have hrow4 : w4.heap[w3.heap.size]? = some (.cells (bcells (rowS s3.H i)) 24 (0, 0)) := by rw [hb4.block _ (blk_lt H2.out)]; exact H2.out
      have hk4 : w4.heap[w.heap.size + 1]? = some (.cells Z27 24 (0, 0)) := by rw [hb4.block _ (blk_lt H1.out)]; exact H1.out
      have hbl4 := be_len 4 hv
      have hcell : ∀ j, j < 4 → w4.cell? ⟨p, j, none⟩ = some (.int .u8 (nth (be 4 hv) j)) := fun j hj => by
        obtain ⟨_, ⟨e, _⟩ | ⟨_, _, _, e, _⟩ | ⟨b, o, cp, e, _, _, _, h⟩⟩ := hs4
        · cases e
        · rw [e] at hbl4; simp at hbl4
        · simp only [Value.slice.injEq, Option.some.injEq, Addr.mk.injEq] at e
          obtain ⟨⟨rfl, rfl, _⟩, _, _⟩ := e
          have := h j (by rw [hbl4]; exact hj)
          rwa [Nat.zero_add] at this
      have hrun := run_copy_row Tryd.prog w4 37 37 3 5 w3.heap.size (4 * i) (32 - 4 * i) (32 - 4 * i) ⟨p, 0, none⟩ 4 4 (bcells (rowS s3.H i)) 24 ((be 4 hv).map (Value.int .u8)) Tryd.underlying37 info5s hrow4
        (by rw [List.length_map, hbl4]; exact (Nat.min_eq_left (by omega)).symm) (fun j u hj => by
          have hj4 : j < 4 := by
            rcases Nat.lt_or_ge j 4 with h | h
            · exact h
            · rw [List.getElem?_eq_none (by rw [List.length_map, hbl4]; exact h)] at hj; cases hj
          rw [addr_add, Nat.zero_add, hcell j hj4, ← hj]
          simp [nth, List.getD, hbl4, hj4]) (by rw [List.length_map, hbl4, bsize, hrl]; omega) (fun z hz => by obtain ⟨_, _, rfl⟩ := List.mem_map.1 hz; rfl)
      rw [List.length_map, bspl, HNX.out] at hrun
      have HRUN := Lib.hid hrun
      have HRW := Lib.hid (setRow_heap w4 w3.heap.size _ (bcells (rowS s3.H (i + 1))) 24 (0, 0) hrow4)
      have HK4 : Hid ((w4.setRow w3.heap.size (bcells (rowS s3.H (i + 1)))).heap[w.heap.size + 1]? = some (.cells Z27 24 (0, 0))) := by
        show _ = _
        rw [setRow_other _ _ _ _ (by have := HSZ3.out; omega)]; exact hk4
      have hbb : Below w.heap.size w w4 := HB.out.drew.trans (hb4.mono HB.out.size)
      have HBB : Hid (Below w.heap.size w (w4.setRow w3.heap.size (bcells (rowS s3.H (i + 1))))) := hbb.trans (below_row _ _ (by have := HSZ3.out; omega))
      clear hrun hbb hcell hk4 hrow4 hs4 hb4 hp4
      refine wpAny_ready (rs := [5]) (by kernel_rfl) (by simp) ?_
      refine' AllReady.cons ?hoc5 (fun K hK => ?stc5) AllReady.nil
      case hoc5 => (simp only [List.getElem?_toArray, List.getElem?_cons_succ, List.getElem?_cons_zero]; rfl)
      refine step_copy_run rfl (.tmp 30) (.tmp 32) 37 37 rfl rfl rfl rfl HRUN.out ?_
      generalize w4.setRow w3.heap.size (bcells (rowS s3.H (i + 1))) = w5 at HRW HK4 HBB ⊢
      refine hK _ _ ?_
      clear hK K
      simp only [Act.put, List.setIfInBounds_toArray, List.set_cons_succ, List.set_cons_zero]
      refine wpAny_done (by kernel_rfl) ?_ _
      go_wp2_with fail
      go_roundw
      case rel => exact ⟨i + 1, by omega, by go_num, HK4.out, HRW.out, HBB.out⟩
      case measure => simp [intOf]; omega
    · obtain rfl : i = 8 := by omega
      rw [rowS_end s3.H hH3, ← HSUM.out] at h2
      have hsl : (sumOf s c).length = 32 := sumOf_len s HS.out c
      have iS : (Tryd.prog.info? 24).map (·.size) = some (bcells (sumOf s c)).size := by rw [i27, bsize, hsl]
      have zS : Z27.size = (bcells (sumOf s c)).size := by rw [← HZ27.out, bsize, bsize, hsl, List.length_replicate]
      have oS := bone (sumOf s c)
      have HB := Lib.hid hbel
      clear hbel
      go_wp2_with (first
        | (refine wpList_load_row rfl 24 _ rfl w3.heap.size rfl 24 (bcells (sumOf s c)) (0, 0) _ h2 Tryd.underlying24 rfl iS ?_)
        | (refine wpList_store_row rfl 24 _ _ rfl (w.heap.size + 1) (bcells (sumOf s c)) rfl rfl 24 Z27 h1 iS zS oS ?_))
      refine bodyPost_ret (v := .agg (bcells (sumOf s c))) (results_cell_row Tryd.results65 _ _ (w.heap.size + 1) 24 _ (0, 0) _ rfl (setRow_heap _ _ _ _ _ _ h1) Tryd.underlying24 rfl iS) rfl ⟨rfl, ?_⟩
      exact HB.out.trans (below_row _ _ (by omega))
end Go.Proofs.YtjdamlmoegippaaDoor.hl
