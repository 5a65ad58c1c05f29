/-
  For every text the law HashlogNobody of package casematelaw08 returns true, and the text reads afterwards as before: a log that is nil, or that no call made, tells sums, and has nothing. Condition: the two tables hold what their initialisers lay (the row's premise).
-/
import Derived.Test.YtboaceabimlodaaDoorLE
import Derived.Test.YtboaceabimlodaaDoorLaid
namespace Go.Proofs.YtboaceabimlodaaDoor.hashlogNobody
open Go.ChangeShapes Go.WideShapes Go.ChangeAt Go.RowKit
set_option maxRecDepth 100000 in
set_option maxHeartbeats 4000000 in
theorem walkBig (x : Option Addr) (L c : Nat) (w : World) (hG : Glob w) (h : 300 < L) : Calls Tryd.prog 4 #[.slice x L c] w fun e w' => e = .returned (.bool true) ∧ Below w.heap.size w w' := by
  have hL : (300 : Int) < (L : Int) := by omega
  have AL := Lib.hid (alive8 w hG)
  clear h hG
  go_enter Tryd.func4, Tryd.ntmps4
  go_wp2_with fail
  refine AL.out.mono ?_
  rintro e w1 ⟨rfl, hb⟩
  go_wp2_with fail
  go_ret
  exact ⟨rfl, hb⟩
def lcells0 : Array Value := (Value.map none :: .int .i64 0 :: .bool false :: List.replicate 32 (.int .u8 0)).toArray
theorem zero43 : ∃ Z : Array Value, Z[0]? = some (.map none) ∧ Z[1]? = some (.int .i64 0) ∧ Z[2]? = some (.bool false) ∧ ∀ w, (zeroValue 43).run Tryd.prog w = .ok (.agg Z) w :=
  ⟨lcells0, rfl, rfl, rfl, fun _ => by kernel_rfl⟩
set_option maxRecDepth 100000 in
set_option maxHeartbeats 8000000 in
theorem walk (b : List Int) (x : Option Addr) (L c : Nat) (w : World) (hG : Glob w) (hv : Sees w (.slice x L c) b) (hL : L = b.length) (hl : L ≤ 300) : Calls Tryd.prog 4 #[.slice x L c] w fun e w' => e = .returned (.bool true) ∧ Below w.heap.size w w' := by
  have hL3 : ¬ (300 : Int) < (L : Int) := by omega
  have hlen : b.length ≤ 100000 := by omega
  have hb := hv.1
  obtain ⟨Z43, z0, z1, z2, zv⟩ := zero43
  have z27 := zv27
  obtain ⟨Z27, hZ27⟩ : ∃ Z, Z = bcells (List.replicate 32 0) := ⟨_, rfl⟩
  rw [← hZ27] at z27
  have lA : (sha b).length = 32 := sha_len _ hb
  have iA : Hid ((Tryd.prog.info? 31).map (·.size) = some (bcells (sha b)).size) := by show _ = _; rw [i27, bsize, lA]
  have zA : Hid (Z27.size = (bcells (sha b)).size) := by show _ = _; rw [hZ27, bsize, bsize, lA, List.length_replicate]
  have oA := Lib.hid (bone (sha b))
  have EQ := Lib.hid (eq27_same (sha b) (sha_byt _) lA)
  have HZ : Hid (Z43[0]? = some (.map none) ∧ Z43[1]? = some (.int .i64 0) ∧ Z43[2]? = some (.bool false)) := ⟨z0, z1, z2⟩
  obtain ⟨wz, hwz⟩ : ∃ wz, wz = w.alloc (.cells Z43 43) := ⟨_, rfl⟩
  have bz : Below w.heap.size w wz := by rw [hwz]; exact (Below.refl _ _).alloc (Nat.le_refl _) _
  have Zz : wz.heap[w.heap.size]? = some (.cells Z43 43 (0, 0)) := by rw [hwz]; exact heap_alloc_new w _
  have h2 : 2 ≤ w.heap.size := by have := hG.lt; omega
  have H2 := Lib.hid h2
  have HGL := Lib.hid hG
  have HV := Lib.hid hv
  have SN := Lib.hid (fun (W : World) (hg : Glob W) (h : Sees W (.slice x L c) b) => sumNil b (.slice x L c) W hg hb hlen h)
  have SZ := Lib.hid (fun (W : World) (hz : ∃ cs, W.heap[w.heap.size]? = some (.cells cs 43 (0, 0)) ∧ cs[0]? = some (.map none)) (hg : Glob W) (h : Sees W (.slice x L c) b) => sumZero w.heap.size b (.slice x L c) W hz hg hb hlen h)
  have SY : Hid (∀ (S : Nat → Prop) (g : Nat) (W : World), LG S W g [] → (∀ q, b ≠ [] → (Value.slice x L c).ownBlock = some q → ¬ S q) → Glob W → Sees W (.slice x L c) b → Calls Tryd.prog 9 #[.pointer (some ⟨g, 0, none⟩), .slice x L c] W (SumP S W g [] b)) := fun S g W h1 h2 h4 h7 => sumY S g [] b _ W h1 h2 (by simp) h4 hb hlen h7
  have HWZ := Lib.hid hwz
  have BZ := Lib.hid bz
  have ZZ := Lib.hid Zz
  have HLTw := Lib.hid hv.lt
  obtain ⟨SC, hSC⟩ : ∃ SC, SC = sha b := ⟨_, rfl⟩
  rw [← hSC] at iA zA oA EQ SN SZ
  have HSC := Lib.hid hSC
  have zn31 : Hid (∀ W : World, (W.alloc (.cells Z27 31)).heap[W.heap.size]? = some (.cells Z27 31 (0, 0))) := fun W => heap_alloc_new W _
  clear hZ27 hG lA hSC hv hL hl hlen hb z0 z1 z2 hwz bz Zz h2
  go_enter Tryd.func4, Tryd.ntmps4
  go_wp2_with fail
  rw [← HWZ.out]
  refine (SN.out _ (HGL.out.below BZ.out H2.out) (HV.out.below BZ.out)).mono ?_
  rintro e w4 ⟨rfl, hb4⟩
  have B4 := Lib.hid (BZ.out.trans (hb4.mono BZ.out.size))
  have Z4 := Lib.hid ((hb4.block _ (blk_lt ZZ.out)).trans ZZ.out)
  clear hb4
  go_wp2_with fail
  refine (SZ.out _ ⟨_, Z4.out, HZ.out.1⟩ (HGL.out.below B4.out H2.out) (HV.out.below B4.out)).mono ?_
  rintro e w5 ⟨rfl, hb5⟩
  have B5 := Lib.hid (B4.out.trans (hb5.mono B4.out.size))
  have Z5 := Lib.hid ((hb5.block _ (blk_lt Z4.out)).trans Z4.out)
  clear hb5
  have g0 : ((w5.alloc (.cells Z27 31)).alloc (.cells Z27 31)).heap[w5.heap.size]? = some (.cells Z27 31 (0, 0)) := by
    rw [Below.heap_alloc _ _ _ (by simp)]; exact heap_alloc_new w5 _
  have g1 : (((w5.alloc (.cells Z27 31)).alloc (.cells Z27 31)).setRow w5.heap.size (bcells SC)).heap[w5.heap.size + 1]? = some (.cells Z27 31 (0, 0)) := by
    rw [setRow_other _ _ _ _ (by omega)]; exact heap_alloc2_new w5 _ _
  obtain ⟨w8, hw8⟩ : ∃ w8, w8 = (((w5.alloc (.cells Z27 31)).alloc (.cells Z27 31)).setRow w5.heap.size (bcells SC)).setRow (w5.heap.size + 1) (bcells SC) := ⟨_, rfl⟩
  have R6 : Hid (w8.heap[w5.heap.size + 1]? = some (.cells (bcells SC) 31 (0, 0))) := by rw [hw8]; exact setRow_heap _ _ _ _ _ _ g1
  have R5 : Hid (w8.heap[w5.heap.size]? = some (.cells (bcells SC) 31 (0, 0))) := by rw [hw8, setRow_other _ _ _ _ (by omega)]; exact setRow_heap _ _ _ _ _ _ g0
  have B58 : Below w5.heap.size w5 w8 := by
    rw [hw8]
    exact ((((Below.refl _ _).alloc (Nat.le_refl _) _).alloc (by simp) _).trans (below_row _ _ (Nat.le_refl _))).trans (below_row _ _ (by omega))
  have B8 : Hid (Below w.heap.size w w8) := B5.out.trans (B58.mono B5.out.size)
  have Z8 := Lib.hid ((B58.block _ (blk_lt Z5.out)).trans Z5.out)
  have G8 := Lib.hid (HGL.out.below B8.out H2.out)
  have H28 : Hid (2 ≤ w8.heap.size) := Nat.le_trans H2.out B8.out.size
  have HV8 := Lib.hid (HV.out.below B8.out)
  have HLT : Hid (∀ q, b ≠ [] → (Value.slice x L c).ownBlock = some q → q < w8.heap.size) := fun q n e => Nat.lt_of_lt_of_le (HLTw.out q n e) B8.out.size
  have HW8 := Lib.hid hw8
  have CZ := Lib.hid (clashNo w.heap.size w8 ((cell_of_row w8 _ 2 _ _ _ Z8.out).trans HZ.out.2.2))
  have G0h := Lib.hid g0
  have G1h := Lib.hid g1
  clear g0 g1 hw8 B58
  go_wp2_with (first
    | (refine wpList_store_row rfl 31 (.tmp 5) (.tmp 19) rfl w5.heap.size (bcells SC) rfl rfl 31 Z27 G0h.out iA.out zA.out oA.out ?_)
    | (refine wpList_store_row rfl 31 (.tmp 6) (.tmp 21) rfl (w5.heap.size + 1) (bcells SC) rfl rfl 31 Z27 G1h.out iA.out zA.out oA.out ?_))
  rw [← HW8.out]
  refine (clashNil w8).mono ?_
  rintro e w' ⟨rfl, rfl⟩
  go_wp2_with fail
  refine CZ.out.mono ?_
  rintro e w' ⟨rfl, rfl⟩
  go_wp2_with fail
  refine wp_region_held_drew (S := fun W => Below w8.heap.size w8 W) (by kernel_rfl) (Below.refl _ _).drew (fun hS => ?_)
  refine wpAnyH_ready (rs := [0]) (by kernel_rfl) (by simp) ?_
  refine' AllReadyH.cons ?hoc0n (fun K hK => ?stc0n) AllReadyH.nil
  case hoc0n => (simp only [List.getElem?_toArray, List.getElem?_cons_zero]; rfl)
  go_simp
  refine (alive8 _ (G8.out.below hS H28.out)).mono ?_
  rintro e wA ⟨rfl, hb⟩
  go_wp2_with fail
  refine hK.out _ _ (hS.trans (hb.mono hS.size)) (fun hHeld => ?_)
  clear hK K
  try simp only [Act.put, List.setIfInBounds_toArray, List.set_cons_succ, List.set_cons_zero]
  clear hS hb
  have hS := hHeld
  clear hHeld
  refine' wpAnyH_take (i := 1) ?h1x1n ?hsx1n ?hfx1n ?hrx1n ?hQx1n (Or.inl ⟨?hwx1n, ?hyx1n⟩) hS ?restx1n
  case h1x1n => (simp only [List.getElem?_toArray, List.getElem?_cons_succ, List.getElem?_cons_zero]; rfl)
  case hsx1n => kernel_rfl
  case hfx1n => kernel_rfl
  case hrx1n => kernel_rfl
  case hQx1n => exact fun _ _ _ h => h
  case hwx1n => rfl
  case hyx1n =>
    intro W hW
    go_simp
    try with_reducible rfl
  simp only [Act.put, List.setIfInBounds_toArray, List.set_cons_succ, List.set_cons_zero]
  refine' wpAnyH_take (i := 2) ?h1x2n ?hsx2n ?hfx2n ?hrx2n ?hQx2n (yieldsIf_load_at ?hwx2n 31 (.tmp 5) ?hopx2n w5.heap.size 0 rfl (bcells SC) _ (fun W hW => range_row ((hW.block _ (blk_lt R5.out)).trans R5.out)) Tryd.underlying31 rfl ?hix2n) hS ?restx2n
  case h1x2n => (simp only [List.getElem?_toArray, List.getElem?_cons_succ, List.getElem?_cons_zero]; rfl)
  case hopx2n => rfl
  case hsx2n => kernel_rfl
  case hfx2n => kernel_rfl
  case hrx2n => kernel_rfl
  case hQx2n => exact fun _ _ _ h => h
  case hwx2n => rfl
  case hix2n => exact iA.out
  simp only [Act.put, List.setIfInBounds_toArray, List.set_cons_succ, List.set_cons_zero]
  refine' wpAnyH_take (i := 3) ?h1x3n ?hsx3n ?hfx3n ?hrx3n ?hQx3n (yieldsIf_load_at ?hwx3n 31 (.tmp 6) ?hopx3n (w5.heap.size + 1) 0 rfl (bcells SC) _ (fun W hW => range_row ((hW.block _ (blk_lt R6.out)).trans R6.out)) Tryd.underlying31 rfl ?hix3n) hS ?restx3n
  case h1x3n => (simp only [List.getElem?_toArray, List.getElem?_cons_succ, List.getElem?_cons_zero]; rfl)
  case hopx3n => rfl
  case hsx3n => kernel_rfl
  case hfx3n => kernel_rfl
  case hrx3n => kernel_rfl
  case hQx3n => exact fun _ _ _ h => h
  case hwx3n => rfl
  case hix3n => exact iA.out
  simp only [Act.put, List.setIfInBounds_toArray, List.set_cons_succ, List.set_cons_zero]
  refine' wpAnyH_take (i := 4) ?h1x4n ?hsx4n ?hfx4n ?hrx4n ?hQx4n (Or.inl ⟨?hwx4n, ?hyx4n⟩) hS ?restx4n
  case h1x4n => (simp only [List.getElem?_toArray, List.getElem?_cons_succ, List.getElem?_cons_zero]; rfl)
  case hsx4n => kernel_rfl
  case hfx4n => kernel_rfl
  case hrx4n => kernel_rfl
  case hQx4n => exact fun _ _ _ h => h
  case hwx4n => rfl
  case hyx4n =>
    intro W hW
    have eq := EQ.out W
    go_simp
    try with_reducible rfl
  simp only [Act.put, List.setIfInBounds_toArray, List.set_cons_succ, List.set_cons_zero]
  refine' wpAnyH_take (i := 5) ?h1x5n ?hsx5n ?hfx5n ?hrx5n ?hQx5n (Or.inl ⟨?hwx5n, ?hyx5n⟩) hS ?restx5n
  case h1x5n => (simp only [List.getElem?_toArray, List.getElem?_cons_succ, List.getElem?_cons_zero]; rfl)
  case hsx5n => kernel_rfl
  case hfx5n => kernel_rfl
  case hrx5n => kernel_rfl
  case hQx5n => exact fun _ _ _ h => h
  case hwx5n => rfl
  case hyx5n =>
    intro W hW
    go_simp
    try with_reducible rfl
  simp only [Act.put, List.setIfInBounds_toArray, List.set_cons_succ, List.set_cons_zero]
  refine' wpAnyH_take (i := 6) ?h1x6n ?hsx6n ?hfx6n ?hrx6n ?hQx6n (Or.inl ⟨?hwx6n, ?hyx6n⟩) hS ?restx6n
  case h1x6n => (simp only [List.getElem?_toArray, List.getElem?_cons_succ, List.getElem?_cons_zero]; rfl)
  case hsx6n => kernel_rfl
  case hfx6n => kernel_rfl
  case hrx6n => kernel_rfl
  case hQx6n => exact fun _ _ _ h => h
  case hwx6n => rfl
  case hyx6n =>
    intro W hW
    go_simp
    try with_reducible rfl
  simp only [Act.put, List.setIfInBounds_toArray, List.set_cons_succ, List.set_cons_zero]
  refine' wpAnyH_take (i := 7) ?h1x7n ?hsx7n ?hfx7n ?hrx7n ?hQx7n (yieldsIf_load_at ?hwx7n 31 (.tmp 5) ?hopx7n w5.heap.size 0 rfl (bcells SC) _ (fun W hW => range_row ((hW.block _ (blk_lt R5.out)).trans R5.out)) Tryd.underlying31 rfl ?hix7n) hS ?restx7n
  case h1x7n => (simp only [List.getElem?_toArray, List.getElem?_cons_succ, List.getElem?_cons_zero]; rfl)
  case hopx7n => rfl
  case hsx7n => kernel_rfl
  case hfx7n => kernel_rfl
  case hrx7n => kernel_rfl
  case hQx7n => exact fun _ _ _ h => h
  case hwx7n => rfl
  case hix7n => exact iA.out
  simp only [Act.put, List.setIfInBounds_toArray, List.set_cons_succ, List.set_cons_zero]
  refine' wpAnyH_take (i := 9) ?h1x9n ?hsx9n ?hfx9n ?hrx9n ?hQx9n (Or.inl ⟨?hwx9n, ?hyx9n⟩) hS ?restx9n
  case h1x9n => (simp only [List.getElem?_toArray, List.getElem?_cons_succ, List.getElem?_cons_zero]; rfl)
  case hsx9n => kernel_rfl
  case hfx9n => kernel_rfl
  case hrx9n => kernel_rfl
  case hQx9n => exact fun _ _ _ h => h
  case hwx9n => rfl
  case hyx9n =>
    intro W hW
    go_simp
    try with_reducible rfl
  simp only [Act.put, List.setIfInBounds_toArray, List.set_cons_succ, List.set_cons_zero]
  have sA := hS.size
  refine wpAnyH_ready (rs := [8]) (by kernel_rfl) (by simp) ?_
  refine' AllReadyH.cons ?hoc8n (fun K hK => ?stc8n) AllReadyH.nil
  case hoc8n => (simp only [List.getElem?_toArray, List.getElem?_cons_succ, List.getElem?_cons_zero]; rfl)
  go_simp
  refine (newL _ (Nat.le_trans H28.out hS.size)).mono ?_
  rintro e wB ⟨gn, rfl, hln, hgn, hb⟩
  go_wp2_with fail
  refine hK.out _ _ (hS.trans (hb.mono hS.size)) (fun hHeld => ?_)
  clear hK K
  try simp only [Act.put, List.setIfInBounds_toArray, List.set_cons_succ, List.set_cons_zero]
  clear hS hb
  have hS := hHeld
  clear hHeld
  refine wpAnyH_ready (rs := [10]) (by kernel_rfl) (by simp) ?_
  refine' AllReadyH.cons ?hoc10n (fun K hK => ?stc10n) AllReadyH.nil
  case hoc10n => (simp only [List.getElem?_toArray, List.getElem?_cons_succ, List.getElem?_cons_zero]; rfl)
  go_simp
  refine (SY.out _ gn _ hln (fun q n0 e hs => by
    have := HLT.out q n0 e
    omega) (G8.out.below hS H28.out) (HV8.out.below hS)).mono ?_
  rintro e wC ⟨rfl, _, hm⟩
  rw [← HSC.out]
  have hSC := hm.below hS hS.size (fun q hq => by omega)
  go_wp2_with fail
  refine hK.out _ _ hSC (fun hHeld => ?_)
  clear hK K
  try simp only [Act.put, List.setIfInBounds_toArray, List.set_cons_succ, List.set_cons_zero]
  clear hS
  have hS := hHeld
  clear hHeld hm hSC
  refine' wpAnyH_take (i := 11) ?h1x11n ?hsx11n ?hfx11n ?hrx11n ?hQx11n (Or.inl ⟨?hwx11n, ?hyx11n⟩) hS ?restx11n
  case h1x11n => (simp only [List.getElem?_toArray, List.getElem?_cons_succ, List.getElem?_cons_zero]; rfl)
  case hsx11n => kernel_rfl
  case hfx11n => kernel_rfl
  case hrx11n => kernel_rfl
  case hQx11n => exact fun _ _ _ h => h
  case hwx11n => rfl
  case hyx11n =>
    intro W hW
    have eq := EQ.out W
    go_simp
    try with_reducible rfl
  simp only [Act.put, List.setIfInBounds_toArray, List.set_cons_succ, List.set_cons_zero]
  refine' wpAnyH_take (i := 12) ?h1x12n ?hsx12n ?hfx12n ?hrx12n ?hQx12n (Or.inl ⟨?hwx12n, ?hyx12n⟩) hS ?restx12n
  case h1x12n => (simp only [List.getElem?_toArray, List.getElem?_cons_succ, List.getElem?_cons_zero]; rfl)
  case hsx12n => kernel_rfl
  case hfx12n => kernel_rfl
  case hrx12n => kernel_rfl
  case hQx12n => exact fun _ _ _ h => h
  case hwx12n => rfl
  case hyx12n =>
    intro W hW
    go_simp
    try with_reducible rfl
  simp only [Act.put, List.setIfInBounds_toArray, List.set_cons_succ, List.set_cons_zero]
  refine' wpAnyH_take (i := 13) ?h1x13n ?hsx13n ?hfx13n ?hrx13n ?hQx13n (Or.inl ⟨?hwx13n, ?hyx13n⟩) hS ?restx13n
  case h1x13n => (simp only [List.getElem?_toArray, List.getElem?_cons_succ, List.getElem?_cons_zero]; rfl)
  case hsx13n => kernel_rfl
  case hfx13n => kernel_rfl
  case hrx13n => kernel_rfl
  case hQx13n => exact fun _ _ _ h => h
  case hwx13n => rfl
  case hyx13n =>
    intro W hW
    go_simp
    try with_reducible rfl
  simp only [Act.put, List.setIfInBounds_toArray, List.set_cons_succ, List.set_cons_zero]
  refine' wpAnyH_take (i := 14) ?h1x14n ?hsx14n ?hfx14n ?hrx14n ?hQx14n (Or.inl ⟨?hwx14n, ?hyx14n⟩) hS ?restx14n
  case h1x14n => (simp only [List.getElem?_toArray, List.getElem?_cons_succ, List.getElem?_cons_zero]; rfl)
  case hsx14n => kernel_rfl
  case hfx14n => kernel_rfl
  case hrx14n => kernel_rfl
  case hQx14n => exact fun _ _ _ h => h
  case hwx14n => rfl
  case hyx14n =>
    intro W hW
    go_simp
    try with_reducible rfl
  simp only [Act.put, List.setIfInBounds_toArray, List.set_cons_succ, List.set_cons_zero]
  refine wpAnyH_ready (rs := [15]) (by kernel_rfl) (by simp) ?_
  refine' AllReadyH.cons ?hoc15n (fun K hK => ?stc15n) AllReadyH.nil
  case hoc15n => (simp only [List.getElem?_toArray, List.getElem?_cons_succ, List.getElem?_cons_zero]; rfl)
  go_simp
  refine (countNil _).mono ?_
  rintro e w' ⟨rfl, rfl⟩
  go_wp2_with fail
  refine hK.out _ _ hS (fun hHeld => ?_)
  clear hK K
  try simp only [Act.put, List.setIfInBounds_toArray, List.set_cons_succ, List.set_cons_zero]
  clear hS
  have hS := hHeld
  clear hHeld
  refine wpAnyH_ready (rs := [16]) (by kernel_rfl) (by simp) ?_
  refine' AllReadyH.cons ?hoc16n (fun K hK => ?stc16n) AllReadyH.nil
  case hoc16n => (simp only [List.getElem?_toArray, List.getElem?_cons_succ, List.getElem?_cons_zero]; rfl)
  go_simp
  refine (countZero w.heap.size _ ((cell_of_row _ _ 1 _ _ _ ((hS.block _ (blk_lt Z8.out)).trans Z8.out)).trans HZ.out.2.1)).mono ?_
  rintro e w' ⟨rfl, rfl⟩
  go_wp2_with fail
  refine hK.out _ _ hS (fun hHeld => ?_)
  clear hK K
  try simp only [Act.put, List.setIfInBounds_toArray, List.set_cons_succ, List.set_cons_zero]
  clear hS
  have hS := hHeld
  clear hHeld
  refine' wpAnyH_take (i := 17) ?h1x17n ?hsx17n ?hfx17n ?hrx17n ?hQx17n (Or.inl ⟨?hwx17n, ?hyx17n⟩) hS ?restx17n
  case h1x17n => (simp only [List.getElem?_toArray, List.getElem?_cons_succ, List.getElem?_cons_zero]; rfl)
  case hsx17n => kernel_rfl
  case hfx17n => kernel_rfl
  case hrx17n => kernel_rfl
  case hQx17n => exact fun _ _ _ h => h
  case hwx17n => rfl
  case hyx17n =>
    intro W hW
    go_simp
    try with_reducible rfl
  simp only [Act.put, List.setIfInBounds_toArray, List.set_cons_succ, List.set_cons_zero]
  refine' wpAnyH_take (i := 18) ?h1x18n ?hsx18n ?hfx18n ?hrx18n ?hQx18n (Or.inl ⟨?hwx18n, ?hyx18n⟩) hS ?restx18n
  case h1x18n => (simp only [List.getElem?_toArray, List.getElem?_cons_succ, List.getElem?_cons_zero]; rfl)
  case hsx18n => kernel_rfl
  case hfx18n => kernel_rfl
  case hrx18n => kernel_rfl
  case hQx18n => exact fun _ _ _ h => h
  case hwx18n => rfl
  case hyx18n =>
    intro W hW
    go_simp
    try with_reducible rfl
  simp only [Act.put, List.setIfInBounds_toArray, List.set_cons_succ, List.set_cons_zero]
  refine' wpAnyH_take (i := 19) ?h1x19n ?hsx19n ?hfx19n ?hrx19n ?hQx19n (Or.inl ⟨?hwx19n, ?hyx19n⟩) hS ?restx19n
  case h1x19n => (simp only [List.getElem?_toArray, List.getElem?_cons_succ, List.getElem?_cons_zero]; rfl)
  case hsx19n => kernel_rfl
  case hfx19n => kernel_rfl
  case hrx19n => kernel_rfl
  case hQx19n => exact fun _ _ _ h => h
  case hwx19n => rfl
  case hyx19n =>
    intro W hW
    go_simp
    try with_reducible rfl
  simp only [Act.put, List.setIfInBounds_toArray, List.set_cons_succ, List.set_cons_zero]
  refine' wpAnyH_take (i := 20) ?h1x20n ?hsx20n ?hfx20n ?hrx20n ?hQx20n (Or.inl ⟨?hwx20n, ?hyx20n⟩) hS ?restx20n
  case h1x20n => (simp only [List.getElem?_toArray, List.getElem?_cons_succ, List.getElem?_cons_zero]; rfl)
  case hsx20n => kernel_rfl
  case hfx20n => kernel_rfl
  case hrx20n => kernel_rfl
  case hQx20n => exact fun _ _ _ h => h
  case hwx20n => rfl
  case hyx20n =>
    intro W hW
    go_simp
    try with_reducible rfl
  simp only [Act.put, List.setIfInBounds_toArray, List.set_cons_succ, List.set_cons_zero]
  refine' wpAnyH_take (i := 21) ?h1x21n ?hsx21n ?hfx21n ?hrx21n ?hQx21n (Or.inl ⟨?hwx21n, ?hyx21n⟩) hS ?restx21n
  case h1x21n => (simp only [List.getElem?_toArray, List.getElem?_cons_succ, List.getElem?_cons_zero]; rfl)
  case hsx21n => kernel_rfl
  case hfx21n => kernel_rfl
  case hrx21n => kernel_rfl
  case hQx21n => exact fun _ _ _ h => h
  case hwx21n => rfl
  case hyx21n =>
    intro W hW
    go_simp
    try with_reducible rfl
  simp only [Act.put, List.setIfInBounds_toArray, List.set_cons_succ, List.set_cons_zero]
  refine' wpAnyH_take (i := 22) ?h1x22n ?hsx22n ?hfx22n ?hrx22n ?hQx22n (Or.inl ⟨?hwx22n, ?hyx22n⟩) hS ?restx22n
  case h1x22n => (simp only [List.getElem?_toArray, List.getElem?_cons_succ, List.getElem?_cons_zero]; rfl)
  case hsx22n => kernel_rfl
  case hfx22n => kernel_rfl
  case hrx22n => kernel_rfl
  case hQx22n => exact fun _ _ _ h => h
  case hwx22n => rfl
  case hyx22n =>
    intro W hW
    go_simp
    try with_reducible rfl
  simp only [Act.put, List.setIfInBounds_toArray, List.set_cons_succ, List.set_cons_zero]
  refine wpAnyH_ready (rs := [23]) (by kernel_rfl) (by simp) ?_
  refine' AllReadyH.cons ?hoc23n (fun K hK => ?stc23n) AllReadyH.nil
  case hoc23n => (simp only [List.getElem?_toArray, List.getElem?_cons_succ, List.getElem?_cons_zero]; rfl)
  go_simp
  refine (hasNil _ _).mono ?_
  rintro e w' ⟨rfl, rfl⟩
  go_wp2_with fail
  refine hK.out _ _ hS (fun hHeld => ?_)
  clear hK K
  try simp only [Act.put, List.setIfInBounds_toArray, List.set_cons_succ, List.set_cons_zero]
  clear hS
  have hS := hHeld
  clear hHeld
  refine' wpAnyH_take (i := 24) ?h1x24n ?hsx24n ?hfx24n ?hrx24n ?hQx24n (Or.inl ⟨?hwx24n, ?hyx24n⟩) hS ?restx24n
  case h1x24n => (simp only [List.getElem?_toArray, List.getElem?_cons_succ, List.getElem?_cons_zero]; rfl)
  case hsx24n => kernel_rfl
  case hfx24n => kernel_rfl
  case hrx24n => kernel_rfl
  case hQx24n => exact fun _ _ _ h => h
  case hwx24n => rfl
  case hyx24n =>
    intro W hW
    go_simp
    try with_reducible rfl
  simp only [Act.put, List.setIfInBounds_toArray, List.set_cons_succ, List.set_cons_zero]
  refine' wpAnyH_take (i := 25) ?h1x25n ?hsx25n ?hfx25n ?hrx25n ?hQx25n (Or.inl ⟨?hwx25n, ?hyx25n⟩) hS ?restx25n
  case h1x25n => (simp only [List.getElem?_toArray, List.getElem?_cons_succ, List.getElem?_cons_zero]; rfl)
  case hsx25n => kernel_rfl
  case hfx25n => kernel_rfl
  case hrx25n => kernel_rfl
  case hQx25n => exact fun _ _ _ h => h
  case hwx25n => rfl
  case hyx25n =>
    intro W hW
    go_simp
    try with_reducible rfl
  simp only [Act.put, List.setIfInBounds_toArray, List.set_cons_succ, List.set_cons_zero]
  refine' wpAnyH_take (i := 26) ?h1x26n ?hsx26n ?hfx26n ?hrx26n ?hQx26n (Or.inl ⟨?hwx26n, ?hyx26n⟩) hS ?restx26n
  case h1x26n => (simp only [List.getElem?_toArray, List.getElem?_cons_succ, List.getElem?_cons_zero]; rfl)
  case hsx26n => kernel_rfl
  case hfx26n => kernel_rfl
  case hrx26n => kernel_rfl
  case hQx26n => exact fun _ _ _ h => h
  case hwx26n => rfl
  case hyx26n =>
    intro W hW
    go_simp
    try with_reducible rfl
  simp only [Act.put, List.setIfInBounds_toArray, List.set_cons_succ, List.set_cons_zero]
  refine' wpAnyH_take (i := 27) ?h1x27n ?hsx27n ?hfx27n ?hrx27n ?hQx27n (Or.inl ⟨?hwx27n, ?hyx27n⟩) hS ?restx27n
  case h1x27n => (simp only [List.getElem?_toArray, List.getElem?_cons_succ, List.getElem?_cons_zero]; rfl)
  case hsx27n => kernel_rfl
  case hfx27n => kernel_rfl
  case hrx27n => kernel_rfl
  case hQx27n => exact fun _ _ _ h => h
  case hwx27n => rfl
  case hyx27n =>
    intro W hW
    go_simp
    try with_reducible rfl
  simp only [Act.put, List.setIfInBounds_toArray, List.set_cons_succ, List.set_cons_zero]
  refine wpAnyH_ready (rs := [28]) (by kernel_rfl) (by simp) ?_
  refine' AllReadyH.cons ?hoc28n (fun K hK => ?stc28n) AllReadyH.nil
  case hoc28n => (simp only [List.getElem?_toArray, List.getElem?_cons_succ, List.getElem?_cons_zero]; rfl)
  go_simp
  refine (hasZero w.heap.size _ _ ((cell_of_row _ _ 0 _ _ _ ((hS.block _ (blk_lt Z8.out)).trans Z8.out)).trans HZ.out.1)).mono ?_
  rintro e w' ⟨rfl, rfl⟩
  go_wp2_with fail
  refine hK.out _ _ hS (fun hHeld => ?_)
  clear hK K
  try simp only [Act.put, List.setIfInBounds_toArray, List.set_cons_succ, List.set_cons_zero]
  clear hS
  have hS := hHeld
  clear hHeld
  refine' wpAnyH_take (i := 29) ?h1x29n ?hsx29n ?hfx29n ?hrx29n ?hQx29n (Or.inl ⟨?hwx29n, ?hyx29n⟩) hS ?restx29n
  case h1x29n => (simp only [List.getElem?_toArray, List.getElem?_cons_succ, List.getElem?_cons_zero]; rfl)
  case hsx29n => kernel_rfl
  case hfx29n => kernel_rfl
  case hrx29n => kernel_rfl
  case hQx29n => exact fun _ _ _ h => h
  case hwx29n => rfl
  case hyx29n =>
    intro W hW
    go_simp
    try with_reducible rfl
  simp only [Act.put, List.setIfInBounds_toArray, List.set_cons_succ, List.set_cons_zero]
  refine' wpAnyH_take (i := 30) ?h1x30n ?hsx30n ?hfx30n ?hrx30n ?hQx30n (Or.inl ⟨?hwx30n, ?hyx30n⟩) hS ?restx30n
  case h1x30n => (simp only [List.getElem?_toArray, List.getElem?_cons_succ, List.getElem?_cons_zero]; rfl)
  case hsx30n => kernel_rfl
  case hfx30n => kernel_rfl
  case hrx30n => kernel_rfl
  case hQx30n => exact fun _ _ _ h => h
  case hwx30n => rfl
  case hyx30n =>
    intro W hW
    go_simp
    try with_reducible rfl
  simp only [Act.put, List.setIfInBounds_toArray, List.set_cons_succ, List.set_cons_zero]
  refine' wpAnyH_take (i := 31) ?h1x31n ?hsx31n ?hfx31n ?hrx31n ?hQx31n (Or.inl ⟨?hwx31n, ?hyx31n⟩) hS ?restx31n
  case h1x31n => (simp only [List.getElem?_toArray, List.getElem?_cons_succ, List.getElem?_cons_zero]; rfl)
  case hsx31n => kernel_rfl
  case hfx31n => kernel_rfl
  case hrx31n => kernel_rfl
  case hQx31n => exact fun _ _ _ h => h
  case hwx31n => rfl
  case hyx31n =>
    intro W hW
    go_simp
    try with_reducible rfl
  simp only [Act.put, List.setIfInBounds_toArray, List.set_cons_succ, List.set_cons_zero]
  refine' wpAnyH_take (i := 32) ?h1x32n ?hsx32n ?hfx32n ?hrx32n ?hQx32n (Or.inl ⟨?hwx32n, ?hyx32n⟩) hS ?restx32n
  case h1x32n => (simp only [List.getElem?_toArray, List.getElem?_cons_succ, List.getElem?_cons_zero]; rfl)
  case hsx32n => kernel_rfl
  case hfx32n => kernel_rfl
  case hrx32n => kernel_rfl
  case hQx32n => exact fun _ _ _ h => h
  case hwx32n => rfl
  case hyx32n =>
    intro W hW
    go_simp
    try with_reducible rfl
  simp only [Act.put, List.setIfInBounds_toArray, List.set_cons_succ, List.set_cons_zero]
  refine' wpAnyH_take (i := 33) ?h1x33n ?hsx33n ?hfx33n ?hrx33n ?hQx33n (Or.inl ⟨?hwx33n, ?hyx33n⟩) hS ?restx33n
  case h1x33n => (simp only [List.getElem?_toArray, List.getElem?_cons_succ, List.getElem?_cons_zero]; rfl)
  case hsx33n => kernel_rfl
  case hfx33n => kernel_rfl
  case hrx33n => kernel_rfl
  case hQx33n => exact fun _ _ _ h => h
  case hwx33n => rfl
  case hyx33n =>
    intro W hW
    go_simp
    try with_reducible rfl
  simp only [Act.put, List.setIfInBounds_toArray, List.set_cons_succ, List.set_cons_zero]
  refine' wpAnyH_take (i := 34) ?h1x34n ?hsx34n ?hfx34n ?hrx34n ?hQx34n (Or.inl ⟨?hwx34n, ?hyx34n⟩) hS ?restx34n
  case h1x34n => (simp only [List.getElem?_toArray, List.getElem?_cons_succ, List.getElem?_cons_zero]; rfl)
  case hsx34n => kernel_rfl
  case hfx34n => kernel_rfl
  case hrx34n => kernel_rfl
  case hQx34n => exact fun _ _ _ h => h
  case hwx34n => rfl
  case hyx34n =>
    intro W hW
    go_simp
    try with_reducible rfl
  simp only [Act.put, List.setIfInBounds_toArray, List.set_cons_succ, List.set_cons_zero]
  refine' wpAnyH_take (i := 35) ?h1x35n ?hsx35n ?hfx35n ?hrx35n ?hQx35n (Or.inl ⟨?hwx35n, ?hyx35n⟩) hS ?restx35n
  case h1x35n => (simp only [List.getElem?_toArray, List.getElem?_cons_succ, List.getElem?_cons_zero]; rfl)
  case hsx35n => kernel_rfl
  case hfx35n => kernel_rfl
  case hrx35n => kernel_rfl
  case hQx35n => exact fun _ _ _ h => h
  case hwx35n => rfl
  case hyx35n =>
    intro W hW
    go_simp
    try with_reducible rfl
  simp only [Act.put, List.setIfInBounds_toArray, List.set_cons_succ, List.set_cons_zero]
  refine' wpAnyH_take (i := 36) ?h1x36n ?hsx36n ?hfx36n ?hrx36n ?hQx36n (Or.inl ⟨?hwx36n, ?hyx36n⟩) hS ?restx36n
  case h1x36n => (simp only [List.getElem?_toArray, List.getElem?_cons_succ, List.getElem?_cons_zero]; rfl)
  case hsx36n => kernel_rfl
  case hfx36n => kernel_rfl
  case hrx36n => kernel_rfl
  case hQx36n => exact fun _ _ _ h => h
  case hwx36n => rfl
  case hyx36n =>
    intro W hW
    go_simp
    try with_reducible rfl
  simp only [Act.put, List.setIfInBounds_toArray, List.set_cons_succ, List.set_cons_zero]
  refine' wpAnyH_take (i := 37) ?h1x37n ?hsx37n ?hfx37n ?hrx37n ?hQx37n (Or.inl ⟨?hwx37n, ?hyx37n⟩) hS ?restx37n
  case h1x37n => (simp only [List.getElem?_toArray, List.getElem?_cons_succ, List.getElem?_cons_zero]; rfl)
  case hsx37n => kernel_rfl
  case hfx37n => kernel_rfl
  case hrx37n => kernel_rfl
  case hQx37n => exact fun _ _ _ h => h
  case hwx37n => rfl
  case hyx37n =>
    intro W hW
    go_simp
    try with_reducible rfl
  simp only [Act.put, List.setIfInBounds_toArray, List.set_cons_succ, List.set_cons_zero]
  refine' wpAnyH_take (i := 38) ?h1x38n ?hsx38n ?hfx38n ?hrx38n ?hQx38n (Or.inl ⟨?hwx38n, ?hyx38n⟩) hS ?restx38n
  case h1x38n => (simp only [List.getElem?_toArray, List.getElem?_cons_succ, List.getElem?_cons_zero]; rfl)
  case hsx38n => kernel_rfl
  case hfx38n => kernel_rfl
  case hrx38n => kernel_rfl
  case hQx38n => exact fun _ _ _ h => h
  case hwx38n => rfl
  case hyx38n =>
    intro W hW
    go_simp
    try with_reducible rfl
  simp only [Act.put, List.setIfInBounds_toArray, List.set_cons_succ, List.set_cons_zero]
  refine' wpAnyH_take (i := 39) ?h1x39n ?hsx39n ?hfx39n ?hrx39n ?hQx39n (Or.inl ⟨?hwx39n, ?hyx39n⟩) hS ?restx39n
  case h1x39n => (simp only [List.getElem?_toArray, List.getElem?_cons_succ, List.getElem?_cons_zero]; rfl)
  case hsx39n => kernel_rfl
  case hfx39n => kernel_rfl
  case hrx39n => kernel_rfl
  case hQx39n => exact fun _ _ _ h => h
  case hwx39n => rfl
  case hyx39n =>
    intro W hW
    go_simp
    try with_reducible rfl
  simp only [Act.put, List.setIfInBounds_toArray, List.set_cons_succ, List.set_cons_zero]
  refine wpAnyH_done (by kernel_rfl) ?_ _
  go_wp2_with fail
  go_ret
  exact ⟨rfl, B8.out.trans (hS.mono B8.out.size)⟩
theorem walkI (b : List Int) (v : Value) (w : World) (hG : Glob w) (hv : Sees w v b) : Calls Tryd.prog 4 #[v] w fun e w' => e = .returned (.bool true) ∧ Below w.heap.size w w' := by
  obtain ⟨x, c, rfl, _⟩ := hv.form
  by_cases h : 300 < b.length
  · exact walkBig x _ c w hG h
  · exact walk b x _ c w hG hv rfl (by omega)

set_option maxRecDepth 100000 in
theorem lifted (os : Os) (started : os.Started) (H : Type) (enc : TypeId × Value → H) :
    ReturnsInHanded {} Tryd.checked os 4 .any (fun w args => (Rows.hashlogNobodySpec.pre enc Tryd.prog Tryd.f4 [] false w args ∧ laidMetH Tryd.prog laid2 w) ∧ sizedMet enc Tryd.prog Tryd.f4 (OpenSpec.ofChange Rows.hashlogNobodySpec) false w args)
      (Rows.hashlogNobodySpec.post enc Tryd.prog Tryd.f4 false true false false) := by
  refine returnsInHanded_of_change_and (C := Tryd.checked) (X := fun w _ => laidMetH Tryd.prog laid2 w) (fun _ _ _ hh h => h.of_heap hh) own started (by kernel_rfl) Tryd.func4
    (ChangeSpec.witness_shaped (enc := enc) (C := Tryd.checked) (os := os) (X := fun w _ => laidMetH Tryd.prog laid2 w) false (World.doorLaid Tryd.prog 400 os) #[.slice none 0 0] 8 rfl (World.shaped_of_RefB (by kernel_rfl) (by kernel_rfl)) (by kernel_rfl) (by kernel_rfl) (by kernel_rfl) (door_met os _)) ?_
  intro W base args ds gs before hval0 hW _ _ hL _
  have hval : ∀ (j : Nat) t v, Tryd.f4.params[j]? = some t → args[j]? = some v → Value.okWide Tryd.prog W .any base t v := hval0
  have hW' := hW
  obtain ⟨p, q, hA0, hV, rfl, hfz, hnd⟩ := hW
  have hA : DataW.TrodAll enc Tryd.prog W 0 (fun _ => true) true Tryd.f4.params.toList args.toList ds p := hA0
  rw [Tryd.params4] at hA hval
  obtain ⟨v0, vs0, d0, ds0, p0, q0, hargs, rfl, rfl, h0, r0⟩ := trodAll_cons hA
  obtain ⟨rfl, rfl, rfl⟩ := trodAll_nil r0
  obtain rfl : args = #[v0] := by cases args; simp_all
  obtain ⟨rfl, rfl⟩ := trodVars_none hV
  obtain ⟨x0, s0⟩ := open_sees (hval 0 23 v0 rfl rfl) h0
  refine (walkI x0 v0 W (of_laid hL) s0).mono fun e W' ⟨he, hb⟩ => ?_
  subst he
  exact ⟨_, rfl, law_post hW' rfl rfl rfl (by kernel_rfl) hb⟩
/-- The row's statement. -/
theorem row_holds : Rows.HashlogNobodySaid :=
  OpenClaim.holds_of_wide 4 Tryd.f4 rfl rfl rfl rfl rfl rfl rfl ⟨rfl, rfl, rfl, rfl, rfl⟩ rfl rfl rfl rfl rfl (by kernel_rfl) Tryd.func4 (by kernel_rfl)
    (of_decide_eq_true (by kernel_rfl)) (by unfold Func.isWrapper; first | (rw [if_pos (by decide +kernel)]; kernel_rfl) | (rw [if_neg (by decide +kernel)]; exact ⟨rfl, rfl⟩))
    (fun os started H enc _ => lifted os started H enc)
/-- The tied card. -/
theorem proved : Rows.HashlogNobodyCardSaid :=
  Claim7.holds_tied_plain_at .later [] [.data, .data] true (true, "d480036ef970937bd262da45ca70bea84650359a340a4447fa45a1141bb94ffb") false
    row_holds (fun _ h => by cases h) (by kernel_rfl) (fun _ h => by cases h) hashlogNobody_row_tie rfl ⟨rfl, rfl⟩ (by kernel_rfl) rfl
    (fun f fn hf hfn => by
      obtain rfl : f = 4 := Option.some.inj ((show Tryd.prog.funcNamed "casemate/casematelaw08.HashlogNobody" = some 4 by kernel_rfl).symm.trans hf) |>.symm
      obtain rfl : fn = Tryd.f4 := (Option.some.inj (Tryd.func4.symm.trans hfn)).symm
      exact ⟨by kernel_rfl, fun j t ht => by
        rw [Tryd.params4] at ht
        have hm : t ∈ [23] := by simpa using Array.mem_of_getElem? ht
        have hall : ([23].all fun u => !Tryd.prog.wantsStandIn u) = true := by kernel_rfl
        exact (show Tryd.prog.wantsStandIn t = false by simpa using List.all_eq_true.1 hall t hm)⟩)
    (by kernel_rfl)
#print axioms proved
end Go.Proofs.YtboaceabimlodaaDoor.hashlogNobody
