/-
  Contracts of the functions that the statements of package aes go through: what is xor'ed into a word; the closure that multiplies columns. Condition: the numbers are bytes.
-/
import Derived.Test.YtpkeofioobmmoaaGreatDoorAeAesD
import Derived.Deep.RegionHeld
namespace Go.Proofs.YtpkeofioobmmoaaGreatDoor.ae
open Go.RowKit
/-- A row that is stored, in a region that draws. -/
theorem step_store_row {P : Program} {ops : Array Oper} {o : Oper} {a : Act} {w : World} {K : Act → World → Prop} {Q : Exit → Act → World → Prop} {E : Prop} (hgd : o.guard = none) (ty : TypeId) (x y : Operand) (ho : o.op = .store ty x y)
    (g : Nat) (cells : Array Value) (hx : a.eval x = .pointer (some ⟨g, 0, none⟩)) (hy : a.eval y = .agg cells) (t : TypeId) (old : Array Value) (hg : w.heap[g]? = some (.cells old t (0, 0))) (hi : (P.info? ty).map (·.size) = some cells.size)
    (hold : old.size = cells.size) (h1 : cells.all (·.oneCell') = true) (hK : K (a.put o.dst undef) (w.setRow g cells)) : if Region.wanted o (yielded ops a.tmps) = true then Oper.wp P o a w K Q else E := by
  have hw : Region.wanted o (yielded ops a.tmps) = true := by simp [Region.wanted, hgd]
  rw [if_pos hw]
  exact wp_store_row ty x y ho g cells hx hy t old hg hi hold h1 hK
set_option maxRecDepth 100000 in
set_option maxHeartbeats 4000000 in
theorem added0 (a : List Nat) (ha : Bts 4 a) (n : Nat) (hn : n ≤ 60) (h4 : n % 8 = 0) (h8 : 8 ≤ n) (g o : Nat) (w : World) (hc : ∀ j, j < 256 → w.cell? ⟨g, o + j, none⟩ = some (.int .u8 (at_ bxs j : Nat))) :
    Calls Tryz.prog 69 #[.agg (ncells a), .int .i64 n, .pointer (some ⟨g, o, none⟩)] w fun e w' => e = .returned (.agg (ncells (addw a n))) ∧ Below w.heap.size w w' := by
  have zz := zero40l
  have hA : addw a n = [Nat.xor (box (at_ a 1)) (npow 2 (n / 8 - 1)), box (at_ a 2), box (at_ a 3), box (at_ a 0)] := by unfold addw; rw [if_pos h4]
  rw [hA]
  have hal : a.length = 4 := ha.1
  have l0 := ha.at_lt 0
  have l1 := ha.at_lt 1
  have l2 := ha.at_lt 2
  have l3 := ha.at_lt 3
  have lg : g < w.heap.size := World.block_lt_of_cell? w _ (hc 0 (by omega))
  obtain ⟨W0, hW0⟩ : ∃ W0, W0 = (w.alloc (.cells (ncells a) 81)).alloc (.cells #[.int .u8 0, .int .u8 0, .int .u8 0, .int .u8 0] 81) := ⟨_, rfl⟩
  have b0 : Below w.heap.size w W0 := by rw [hW0]; exact ((Below.refl _ _).alloc (Nat.le_refl _) _).alloc (by simp) _
  have g0 : W0.heap[w.heap.size]? = some (.cells (ncells a) 81 (0, 0)) := by rw [hW0, Below.heap_alloc _ _ _ (by simp)]; exact heap_alloc_new w _
  have g1 : W0.heap[w.heap.size + 1]? = some (.cells #[.int .u8 0, .int .u8 0, .int .u8 0, .int .u8 0] 81 (0, 0)) := by rw [hW0]; exact heap_alloc2_new w _ _
  have c0 := cell_at (k := 0) g0 hal (by omega)
  have c1 := cell_at (k := 1) g0 hal (by omega)
  have c2 := cell_at (k := 2) g0 hal (by omega)
  have c3 := cell_at (k := 3) g0 hal (by omega)
  have T : ∀ j, j < 256 → W0.cell? ⟨g, o + j, none⟩ = some (.int .u8 (box j : Nat)) := fun j hj => by rw [b0.cell (p := ⟨g, o + j, none⟩) lg, hc j hj, bxs_at hj]
  have t0 := T _ l0
  have t1 := T _ l1
  have t2 := T _ l2
  have t3 := T _ l3
  generalize at_ a 0 = x0 at *
  generalize at_ a 1 = x1 at *
  generalize at_ a 2 = x2 at *
  generalize at_ a 3 = x3 at *
  have k1 : box x1 < 256 := box_lt l1
  generalize box x0 = y0 at *
  generalize box x1 = y1 at *
  generalize box x2 = y2 at *
  generalize box x3 = y3 at *
  have m0 : (x0 : Int) < 256 := by omega
  have m1 : (x1 : Int) < 256 := by omega
  have m2 : (x2 : Int) < 256 := by omega
  have m3 : (x3 : Int) < 256 := by omega
  have hn8 : (n : Int) % 8 = 0 := by omega
  obtain ⟨e, he⟩ : ∃ e, e = n / 8 - 1 := ⟨_, rfl⟩
  rw [← he]
  obtain ⟨m, hm⟩ : ∃ m, m = n / 8 := ⟨_, rfl⟩
  have EM1 : Hid ((n : Int).tdiv 8 = (m : Int)) := by show _ = _; rw [Int.tdiv_eq_ediv_of_nonneg (by omega)]; omega
  have EM2 : Hid (IntKind.i64.wrap (m : Int) = (m : Int)) := IntWalk.i64_in _ (by omega)
  have EM3 : Hid (IntKind.i64.wrap ((m : Int) - 1) = (e : Int)) := by show _ = _; rw [IntWalk.i64_in _ (by omega)]; omega
  have he7 : (e : Int) ≤ 9223372036854775807 := by omega
  have PW : Hid (∀ W, Calls Tryz.prog 87 #[.int .u8 2, .int .i64 (e : Int)] W fun e1 w' => e1 = .returned (.int .u8 (npow 2 e : Nat)) ∧ w' = W) := fun W => by
    have h := power 2 (e : Int) (by omega) (by omega) (by omega) W
    have hg : gpw 2 (e : Int) = npow 2 e := by unfold gpw; simp
    rw [hg] at h
    exact h.mono fun _ _ ⟨a, b⟩ => ⟨a, b.symm⟩
  have pl : npow 2 e < 256 := npow_lt (by omega) e
  have hx := xor8 y1 (npow 2 e) k1 pl
  generalize npow 2 e = q at *
  have HX := Lib.hid hx
  obtain ⟨z1, hz1⟩ : ∃ z, z = Nat.xor y1 q := ⟨_, rfl⟩
  rw [← hz1] at HX ⊢
  have IJ := Lib.hid (i40 (b := [z1, y2, y3, y0]) rfl)
  have OJ := Lib.hid (none_ [z1, y2, y3, y0])
  have I4 : Hid ((Tryz.prog.info? 81).map (·.size) = some (#[.int .u8 (y1 : Int), .int .u8 (y2 : Int), .int .u8 (y3 : Int), .int .u8 (y0 : Int)] : Array Value).size) := info40
  have G1 := Lib.hid g1
  have HW0 := Lib.hid hW0
  have HB := Lib.hid b0
  have C0 := Lib.hid c0
  have C1 := Lib.hid c1
  have C2 := Lib.hid c2
  have C3 := Lib.hid c3
  have T0 := Lib.hid t0
  have T1 := Lib.hid t1
  have T2 := Lib.hid t2
  have T3 := Lib.hid t3
  have LG : Hid (g < W0.heap.size) := Nat.lt_of_lt_of_le lg b0.size
  have LW : Hid (w.heap.size < W0.heap.size) := by show _ < _; rw [hW0]; simp; omega
  have LW1 : Hid (w.heap.size + 1 < W0.heap.size) := by show _ < _; rw [hW0]; simp
  clear hA hal ha hc lg hW0 b0 g0 g1 T h4 l0 l1 l2 l3 hx hz1 k1 pl hm t0 t1 t2 t3 c0 c1 c2 c3 he
  go_enter Tryz.func69, Tryz.ntmps69
  go_wp2_with fail
  rw [← HW0.out]
  refine wp_region_held_drew (S := fun W => Below W0.heap.size W0 W) (by kernel_rfl) (Below.refl _ _).drew (fun hS => ?_)
  refine' wpAnyH_take (i := 0) ?h1x0p ?hsx0p ?hfx0p ?hrx0p ?hQx0p (Or.inl ⟨?hwx0p, ?hyx0p⟩) hS ?restx0p
  case h1x0p => (simp only [List.getElem?_toArray, List.getElem?_cons_zero]; rfl)
  case hsx0p | hfx0p | hrx0p => kernel_rfl
  case hQx0p => exact fun _ _ _ h => h
  case hwx0p => rfl
  case hyx0p =>
    intro W hW
    go_simp
    try with_reducible rfl
  simp only [Act.put, List.setIfInBounds_toArray, List.set_cons_succ, List.set_cons_zero]
  refine' wpAnyH_take (i := 1) ?h1x1p ?hsx1p ?hfx1p ?hrx1p ?hQx1p (Or.inl ⟨?hwx1p, ?hyx1p⟩) hS ?restx1p
  case h1x1p => (simp only [List.getElem?_toArray, List.getElem?_cons_succ, List.getElem?_cons_zero]; rfl)
  case hsx1p | hfx1p | hrx1p => kernel_rfl
  case hQx1p => exact fun _ _ _ h => h
  case hwx1p => rfl
  case hyx1p =>
    intro W hW
    go_simp
    try with_reducible rfl
  simp only [Act.put, List.setIfInBounds_toArray, List.set_cons_succ, List.set_cons_zero]
  refine' wpAnyH_take (i := 2) ?h1x2p ?hsx2p ?hfx2p ?hrx2p ?hQx2p (Or.inl ⟨?hwx2p, ?hyx2p⟩) hS ?restx2p
  case h1x2p => (simp only [List.getElem?_toArray, List.getElem?_cons_succ, List.getElem?_cons_zero]; rfl)
  case hsx2p | hfx2p | hrx2p => kernel_rfl
  case hQx2p => exact fun _ _ _ h => h
  case hwx2p => rfl
  case hyx2p =>
    intro W hW
    have dd := (hW.cell (p := ⟨w.heap.size, 1, none⟩) LW.out).trans C1.out
    go_simp
    try with_reducible rfl
  simp only [Act.put, List.setIfInBounds_toArray, List.set_cons_succ, List.set_cons_zero]
  refine' wpAnyH_take (i := 3) ?h1x3p ?hsx3p ?hfx3p ?hrx3p ?hQx3p (Or.inl ⟨?hwx3p, ?hyx3p⟩) hS ?restx3p
  case h1x3p => (simp only [List.getElem?_toArray, List.getElem?_cons_succ, List.getElem?_cons_zero]; rfl)
  case hsx3p | hfx3p | hrx3p => kernel_rfl
  case hQx3p => exact fun _ _ _ h => h
  case hwx3p => rfl
  case hyx3p =>
    intro W hW
    go_simp
    try with_reducible rfl
  simp only [Act.put, List.setIfInBounds_toArray, List.set_cons_succ, List.set_cons_zero]
  refine' wpAnyH_take (i := 4) ?h1x4p ?hsx4p ?hfx4p ?hrx4p ?hQx4p (Or.inl ⟨?hwx4p, ?hyx4p⟩) hS ?restx4p
  case h1x4p => (simp only [List.getElem?_toArray, List.getElem?_cons_succ, List.getElem?_cons_zero]; rfl)
  case hsx4p | hfx4p | hrx4p => kernel_rfl
  case hQx4p => exact fun _ _ _ h => h
  case hwx4p => rfl
  case hyx4p =>
    intro W hW
    go_simp
    try with_reducible rfl
  simp only [Act.put, List.setIfInBounds_toArray, List.set_cons_succ, List.set_cons_zero]
  refine' wpAnyH_take (i := 5) ?h1x5p ?hsx5p ?hfx5p ?hrx5p ?hQx5p (Or.inl ⟨?hwx5p, ?hyx5p⟩) hS ?restx5p
  case h1x5p => (simp only [List.getElem?_toArray, List.getElem?_cons_succ, List.getElem?_cons_zero]; rfl)
  case hsx5p | hfx5p | hrx5p => kernel_rfl
  case hQx5p => exact fun _ _ _ h => h
  case hwx5p => rfl
  case hyx5p =>
    intro W hW
    have dd := (hW.cell (p := ⟨g, o + x1, none⟩) LG.out).trans T1.out
    go_simp
    try with_reducible rfl
  simp only [Act.put, List.setIfInBounds_toArray, List.set_cons_succ, List.set_cons_zero]
  refine' wpAnyH_take (i := 6) ?h1x6p ?hsx6p ?hfx6p ?hrx6p ?hQx6p (Or.inl ⟨?hwx6p, ?hyx6p⟩) hS ?restx6p
  case h1x6p => (simp only [List.getElem?_toArray, List.getElem?_cons_succ, List.getElem?_cons_zero]; rfl)
  case hsx6p | hfx6p | hrx6p => kernel_rfl
  case hQx6p => exact fun _ _ _ h => h
  case hwx6p => rfl
  case hyx6p =>
    intro W hW
    go_simp
    try with_reducible rfl
  simp only [Act.put, List.setIfInBounds_toArray, List.set_cons_succ, List.set_cons_zero]
  refine' wpAnyH_take (i := 7) ?h1x7p ?hsx7p ?hfx7p ?hrx7p ?hQx7p (Or.inl ⟨?hwx7p, ?hyx7p⟩) hS ?restx7p
  case h1x7p => (simp only [List.getElem?_toArray, List.getElem?_cons_succ, List.getElem?_cons_zero]; rfl)
  case hsx7p | hfx7p | hrx7p => kernel_rfl
  case hQx7p => exact fun _ _ _ h => h
  case hwx7p => rfl
  case hyx7p =>
    intro W hW
    go_simp
    try with_reducible rfl
  simp only [Act.put, List.setIfInBounds_toArray, List.set_cons_succ, List.set_cons_zero]
  refine' wpAnyH_take (i := 8) ?h1x8p ?hsx8p ?hfx8p ?hrx8p ?hQx8p (Or.inl ⟨?hwx8p, ?hyx8p⟩) hS ?restx8p
  case h1x8p => (simp only [List.getElem?_toArray, List.getElem?_cons_succ, List.getElem?_cons_zero]; rfl)
  case hsx8p | hfx8p | hrx8p => kernel_rfl
  case hQx8p => exact fun _ _ _ h => h
  case hwx8p => rfl
  case hyx8p =>
    intro W hW
    have dd := (hW.cell (p := ⟨w.heap.size, 2, none⟩) LW.out).trans C2.out
    go_simp
    try with_reducible rfl
  simp only [Act.put, List.setIfInBounds_toArray, List.set_cons_succ, List.set_cons_zero]
  refine' wpAnyH_take (i := 9) ?h1x9p ?hsx9p ?hfx9p ?hrx9p ?hQx9p (Or.inl ⟨?hwx9p, ?hyx9p⟩) hS ?restx9p
  case h1x9p => (simp only [List.getElem?_toArray, List.getElem?_cons_succ, List.getElem?_cons_zero]; rfl)
  case hsx9p | hfx9p | hrx9p => kernel_rfl
  case hQx9p => exact fun _ _ _ h => h
  case hwx9p => rfl
  case hyx9p =>
    intro W hW
    go_simp
    try with_reducible rfl
  simp only [Act.put, List.setIfInBounds_toArray, List.set_cons_succ, List.set_cons_zero]
  refine' wpAnyH_take (i := 10) ?h1x10p ?hsx10p ?hfx10p ?hrx10p ?hQx10p (Or.inl ⟨?hwx10p, ?hyx10p⟩) hS ?restx10p
  case h1x10p => (simp only [List.getElem?_toArray, List.getElem?_cons_succ, List.getElem?_cons_zero]; rfl)
  case hsx10p | hfx10p | hrx10p => kernel_rfl
  case hQx10p => exact fun _ _ _ h => h
  case hwx10p => rfl
  case hyx10p =>
    intro W hW
    go_simp
    try with_reducible rfl
  simp only [Act.put, List.setIfInBounds_toArray, List.set_cons_succ, List.set_cons_zero]
  refine' wpAnyH_take (i := 11) ?h1x11p ?hsx11p ?hfx11p ?hrx11p ?hQx11p (Or.inl ⟨?hwx11p, ?hyx11p⟩) hS ?restx11p
  case h1x11p => (simp only [List.getElem?_toArray, List.getElem?_cons_succ, List.getElem?_cons_zero]; rfl)
  case hsx11p | hfx11p | hrx11p => kernel_rfl
  case hQx11p => exact fun _ _ _ h => h
  case hwx11p => rfl
  case hyx11p =>
    intro W hW
    have dd := (hW.cell (p := ⟨g, o + x2, none⟩) LG.out).trans T2.out
    go_simp
    try with_reducible rfl
  simp only [Act.put, List.setIfInBounds_toArray, List.set_cons_succ, List.set_cons_zero]
  refine' wpAnyH_take (i := 12) ?h1x12p ?hsx12p ?hfx12p ?hrx12p ?hQx12p (Or.inl ⟨?hwx12p, ?hyx12p⟩) hS ?restx12p
  case h1x12p => (simp only [List.getElem?_toArray, List.getElem?_cons_succ, List.getElem?_cons_zero]; rfl)
  case hsx12p | hfx12p | hrx12p => kernel_rfl
  case hQx12p => exact fun _ _ _ h => h
  case hwx12p => rfl
  case hyx12p =>
    intro W hW
    go_simp
    try with_reducible rfl
  simp only [Act.put, List.setIfInBounds_toArray, List.set_cons_succ, List.set_cons_zero]
  refine' wpAnyH_take (i := 13) ?h1x13p ?hsx13p ?hfx13p ?hrx13p ?hQx13p (Or.inl ⟨?hwx13p, ?hyx13p⟩) hS ?restx13p
  case h1x13p => (simp only [List.getElem?_toArray, List.getElem?_cons_succ, List.getElem?_cons_zero]; rfl)
  case hsx13p | hfx13p | hrx13p => kernel_rfl
  case hQx13p => exact fun _ _ _ h => h
  case hwx13p => rfl
  case hyx13p =>
    intro W hW
    go_simp
    try with_reducible rfl
  simp only [Act.put, List.setIfInBounds_toArray, List.set_cons_succ, List.set_cons_zero]
  refine' wpAnyH_take (i := 14) ?h1x14p ?hsx14p ?hfx14p ?hrx14p ?hQx14p (Or.inl ⟨?hwx14p, ?hyx14p⟩) hS ?restx14p
  case h1x14p => (simp only [List.getElem?_toArray, List.getElem?_cons_succ, List.getElem?_cons_zero]; rfl)
  case hsx14p | hfx14p | hrx14p => kernel_rfl
  case hQx14p => exact fun _ _ _ h => h
  case hwx14p => rfl
  case hyx14p =>
    intro W hW
    have dd := (hW.cell (p := ⟨w.heap.size, 3, none⟩) LW.out).trans C3.out
    go_simp
    try with_reducible rfl
  simp only [Act.put, List.setIfInBounds_toArray, List.set_cons_succ, List.set_cons_zero]
  refine' wpAnyH_take (i := 15) ?h1x15p ?hsx15p ?hfx15p ?hrx15p ?hQx15p (Or.inl ⟨?hwx15p, ?hyx15p⟩) hS ?restx15p
  case h1x15p => (simp only [List.getElem?_toArray, List.getElem?_cons_succ, List.getElem?_cons_zero]; rfl)
  case hsx15p | hfx15p | hrx15p => kernel_rfl
  case hQx15p => exact fun _ _ _ h => h
  case hwx15p => rfl
  case hyx15p =>
    intro W hW
    go_simp
    try with_reducible rfl
  simp only [Act.put, List.setIfInBounds_toArray, List.set_cons_succ, List.set_cons_zero]
  refine' wpAnyH_take (i := 16) ?h1x16p ?hsx16p ?hfx16p ?hrx16p ?hQx16p (Or.inl ⟨?hwx16p, ?hyx16p⟩) hS ?restx16p
  case h1x16p => (simp only [List.getElem?_toArray, List.getElem?_cons_succ, List.getElem?_cons_zero]; rfl)
  case hsx16p | hfx16p | hrx16p => kernel_rfl
  case hQx16p => exact fun _ _ _ h => h
  case hwx16p => rfl
  case hyx16p =>
    intro W hW
    go_simp
    try with_reducible rfl
  simp only [Act.put, List.setIfInBounds_toArray, List.set_cons_succ, List.set_cons_zero]
  refine' wpAnyH_take (i := 17) ?h1x17p ?hsx17p ?hfx17p ?hrx17p ?hQx17p (Or.inl ⟨?hwx17p, ?hyx17p⟩) hS ?restx17p
  case h1x17p => (simp only [List.getElem?_toArray, List.getElem?_cons_succ, List.getElem?_cons_zero]; rfl)
  case hsx17p | hfx17p | hrx17p => kernel_rfl
  case hQx17p => exact fun _ _ _ h => h
  case hwx17p => rfl
  case hyx17p =>
    intro W hW
    have dd := (hW.cell (p := ⟨g, o + x3, none⟩) LG.out).trans T3.out
    go_simp
    try with_reducible rfl
  simp only [Act.put, List.setIfInBounds_toArray, List.set_cons_succ, List.set_cons_zero]
  refine' wpAnyH_take (i := 18) ?h1x18p ?hsx18p ?hfx18p ?hrx18p ?hQx18p (Or.inl ⟨?hwx18p, ?hyx18p⟩) hS ?restx18p
  case h1x18p => (simp only [List.getElem?_toArray, List.getElem?_cons_succ, List.getElem?_cons_zero]; rfl)
  case hsx18p | hfx18p | hrx18p => kernel_rfl
  case hQx18p => exact fun _ _ _ h => h
  case hwx18p => rfl
  case hyx18p =>
    intro W hW
    go_simp
    try with_reducible rfl
  simp only [Act.put, List.setIfInBounds_toArray, List.set_cons_succ, List.set_cons_zero]
  refine' wpAnyH_take (i := 19) ?h1x19p ?hsx19p ?hfx19p ?hrx19p ?hQx19p (Or.inl ⟨?hwx19p, ?hyx19p⟩) hS ?restx19p
  case h1x19p => (simp only [List.getElem?_toArray, List.getElem?_cons_succ, List.getElem?_cons_zero]; rfl)
  case hsx19p | hfx19p | hrx19p => kernel_rfl
  case hQx19p => exact fun _ _ _ h => h
  case hwx19p => rfl
  case hyx19p =>
    intro W hW
    go_simp
    try with_reducible rfl
  simp only [Act.put, List.setIfInBounds_toArray, List.set_cons_succ, List.set_cons_zero]
  refine' wpAnyH_take (i := 20) ?h1x20p ?hsx20p ?hfx20p ?hrx20p ?hQx20p (Or.inl ⟨?hwx20p, ?hyx20p⟩) hS ?restx20p
  case h1x20p => (simp only [List.getElem?_toArray, List.getElem?_cons_succ, List.getElem?_cons_zero]; rfl)
  case hsx20p | hfx20p | hrx20p => kernel_rfl
  case hQx20p => exact fun _ _ _ h => h
  case hwx20p => rfl
  case hyx20p =>
    intro W hW
    have dd := (hW.cell (p := ⟨w.heap.size, 0, none⟩) LW.out).trans C0.out
    go_simp
    try with_reducible rfl
  simp only [Act.put, List.setIfInBounds_toArray, List.set_cons_succ, List.set_cons_zero]
  refine' wpAnyH_take (i := 21) ?h1x21p ?hsx21p ?hfx21p ?hrx21p ?hQx21p (Or.inl ⟨?hwx21p, ?hyx21p⟩) hS ?restx21p
  case h1x21p => (simp only [List.getElem?_toArray, List.getElem?_cons_succ, List.getElem?_cons_zero]; rfl)
  case hsx21p | hfx21p | hrx21p => kernel_rfl
  case hQx21p => exact fun _ _ _ h => h
  case hwx21p => rfl
  case hyx21p =>
    intro W hW
    go_simp
    try with_reducible rfl
  simp only [Act.put, List.setIfInBounds_toArray, List.set_cons_succ, List.set_cons_zero]
  refine' wpAnyH_take (i := 22) ?h1x22p ?hsx22p ?hfx22p ?hrx22p ?hQx22p (Or.inl ⟨?hwx22p, ?hyx22p⟩) hS ?restx22p
  case h1x22p => (simp only [List.getElem?_toArray, List.getElem?_cons_succ, List.getElem?_cons_zero]; rfl)
  case hsx22p | hfx22p | hrx22p => kernel_rfl
  case hQx22p => exact fun _ _ _ h => h
  case hwx22p => rfl
  case hyx22p =>
    intro W hW
    go_simp
    try with_reducible rfl
  simp only [Act.put, List.setIfInBounds_toArray, List.set_cons_succ, List.set_cons_zero]
  refine' wpAnyH_take (i := 23) ?h1x23p ?hsx23p ?hfx23p ?hrx23p ?hQx23p (Or.inl ⟨?hwx23p, ?hyx23p⟩) hS ?restx23p
  case h1x23p => (simp only [List.getElem?_toArray, List.getElem?_cons_succ, List.getElem?_cons_zero]; rfl)
  case hsx23p | hfx23p | hrx23p => kernel_rfl
  case hQx23p => exact fun _ _ _ h => h
  case hwx23p => rfl
  case hyx23p =>
    intro W hW
    have dd := (hW.cell (p := ⟨g, o + x0, none⟩) LG.out).trans T0.out
    go_simp
    try with_reducible rfl
  simp only [Act.put, List.setIfInBounds_toArray, List.set_cons_succ, List.set_cons_zero]
  refine' wpAnyH_take (i := 24) ?h1x24p ?hsx24p ?hfx24p ?hrx24p ?hQx24p (Or.inl ⟨?hwx24p, ?hyx24p⟩) hS ?restx24p
  case h1x24p => (simp only [List.getElem?_toArray, List.getElem?_cons_succ, List.getElem?_cons_zero]; rfl)
  case hsx24p | hfx24p | hrx24p => kernel_rfl
  case hQx24p => exact fun _ _ _ h => h
  case hwx24p => rfl
  case hyx24p =>
    intro W hW
    go_simp
    try with_reducible rfl
  simp only [Act.put, List.setIfInBounds_toArray, List.set_cons_succ, List.set_cons_zero]
  refine wpAnyH_ready (rs := [25]) (by kernel_rfl) (by simp) ?_
  refine' AllReadyH.cons ?hoc25p (fun K hK => ?stc25p) AllReadyH.nil
  case hoc25p => (simp only [List.getElem?_toArray, List.getElem?_cons_succ, List.getElem?_cons_zero]; rfl)
  go_simp
  refine hK.out _ _ (hS.alloc hS.size _) (fun hHeld => ?_)
  clear hK K
  try simp only [Act.put, List.setIfInBounds_toArray, List.set_cons_succ, List.set_cons_zero]
  clear hS
  have hS := hHeld
  clear hHeld
  have hz : (W0.alloc (.cells #[.int .u8 0, .int .u8 0, .int .u8 0, .int .u8 0] 81)).drew.heap[W0.heap.size]? = some (.cells #[.int .u8 0, .int .u8 0, .int .u8 0, .int .u8 0] 81 (0, 0)) := heap_alloc_new W0 _
  refine wpAnyH_ready (rs := [26]) (by kernel_rfl) (by simp) ?_
  refine' AllReadyH.cons ?hoc26p (fun K hK => ?stc26p) AllReadyH.nil
  case hoc26p => (simp only [List.getElem?_toArray, List.getElem?_cons_succ, List.getElem?_cons_zero]; rfl)
  refine step_store_row rfl 81 (.tmp 7) (.tmp 36) rfl W0.heap.size #[.int .u8 (y1 : Int), .int .u8 (y2 : Int), .int .u8 (y3 : Int), .int .u8 (y0 : Int)] rfl rfl 81 _ hz I4.out rfl (by simp [Value.oneCell']) ?_
  refine hK.out _ _ (hS.trans (below_row _ _ (Nat.le_refl _))) (fun hHeld => ?_)
  clear hK K
  simp only [Act.put]
  refine wpAnyH_done (by kernel_rfl) ?_ _
  have r7 := setRow_heap _ W0.heap.size _ (#[.int .u8 (y1 : Int), .int .u8 (y2 : Int), .int .u8 (y3 : Int), .int .u8 (y0 : Int)] : Array Value) _ _ hz
  have g6 := (hHeld.block _ LW1.out).trans G1.out
  generalize (World.setRow _ W0.heap.size _) = W2 at r7 hHeld g6 ⊢
  have cz : W2.cell? ⟨W0.heap.size, 0, none⟩ = some (.int .u8 (y1 : Int)) := cell_of_row _ _ 0 _ _ _ r7
  have fz := frozen_of_row W2 W0.heap.size 0 _ 81 r7
  have R7 := Lib.hid r7
  have G6 := Lib.hid g6
  have H2 := Lib.hid hHeld
  clear r7 g6 hHeld hS hz
  have hm1 : (n : Int).tdiv 8 = (m : Int) := EM1.out
  have hm2 : IntKind.i64.wrap (m : Int) = (m : Int) := EM2.out
  have hm3 : IntKind.i64.wrap ((m : Int) - 1) = (e : Int) := EM3.out
  go_wp2_with fail
  refine wp_region_still_tail 8 (by kernel_rfl) (by kernel_rfl) ?_
  simp only [List.take_succ_cons, List.take_zero, List.drop_succ_cons, List.drop_zero]
  iterate 5 still_step
  still_call (PW.out _)
  iterate 2 still_step
  refine wpStill_nil ?_
  change wpList _ _ _ _ _ W2.drew
  clear hm1 hm2 hm3
  have R8 : Hid ((W2.setCell ⟨W0.heap.size, 0, none⟩ (.int .u8 (z1 : Int))).drew.heap[W0.heap.size]? = some (.cells (ncells [z1, y2, y3, y0]) 81 (0, 0))) := (heap_setCell_same _ _ _ _ _ _ R7.out).trans rfl
  have G8 : Hid ((W2.setCell ⟨W0.heap.size, 0, none⟩ (.int .u8 (z1 : Int))).drew.heap[w.heap.size + 1]? = some (.cells #[.int .u8 0, .int .u8 0, .int .u8 0, .int .u8 0] 81 (0, 0))) := (heap_setCell_other _ _ _ _ (by have := LW1.out; simp; omega)).trans G6.out
  have H8 : Hid (Below w.heap.size w (W2.setCell ⟨W0.heap.size, 0, none⟩ (.int .u8 (z1 : Int))).drew) := ((HB.out.trans (H2.out.mono HB.out.size)).setCell HB.out.size _).drew
  have hx := HX.out
  go_wp2_with (first
    | (refine wpList_load_row rfl 81 (.tmp 7) rfl W0.heap.size rfl 81 (ncells [z1, y2, y3, y0]) (0, 0) _ R8.out Tryz.underlying81 rfl IJ.out ?_)
    | (refine wpList_store_row rfl 81 (.tmp 6) (.tmp 45) rfl (w.heap.size + 1) (ncells [z1, y2, y3, y0]) rfl rfl 81 _ G8.out IJ.out rfl OJ.out ?_))
  refine bodyPost_ret (v := .agg (ncells [z1, y2, y3, y0])) (results_cell_row Tryz.results69 _ _ (w.heap.size + 1) 81 _ (0, 0) _ rfl (setRow_heap _ _ _ _ _ _ G8.out) Tryz.underlying81 rfl IJ.out) rfl ⟨rfl, ?_⟩
  exact H8.out.trans (below_row _ _ (Nat.le_succ _))
theorem added (a : List Nat) (ha : Bts 4 a) (n : Nat) (hn : n ≤ 60) (h8 : 8 ≤ n) (g o : Nat) (w : World) (hc : ∀ j, j < 256 → w.cell? ⟨g, o + j, none⟩ = some (.int .u8 (at_ bxs j : Nat))) :
    Calls Tryz.prog 69 #[.agg (ncells a), .int .i64 n, .pointer (some ⟨g, o, none⟩)] w fun e w' => e = .returned (.agg (ncells (addw a n))) ∧ Below w.heap.size w w' := by
  by_cases h0 : n % 8 = 0
  · exact added0 a ha n hn h0 h8 g o w hc
  · by_cases h4 : n % 8 = 4
    · exact added4 a ha n hn h4 g o w hc
    · exact addedN a ha n hn h0 h4 _ w
theorem addw_bts {a : List Nat} (ha : Bts 4 a) (n : Nat) : Bts 4 (addw a n) := by
  refine bts_of ?_ (fun i _ => addw_lt (fun k => ha.at_lt k) n i)
  unfold addw
  split
  · rfl
  · split
    · rfl
    · exact ha.1
/-- The words of a key, one behind the other. -/
def flat (key : List Nat) : List Nat := tab 240 fun j => at_ (lat (wk key 60) (j / 4)) (j % 4)
theorem flat_at (key : List Nat) (j k : Nat) (hj : j < 60) (hk : k < 4) : at_ (flat key) (4 * j + k) = at_ (lat (wk key 60) j) k := by
  unfold flat
  rw [tab_at _ _ _ (by omega), show (4 * j + k) / 4 = j by omega, show (4 * j + k) % 4 = k by omega]
theorem rkf_flat (key : List Nat) (r : Nat) (hr : r ≤ 14) : rkf (flat key) r = rkey key r := by
  unfold rkf rkey
  refine tab_congr fun i hi => ?_
  rw [show 16 * r + i = 4 * (4 * r + i / 4) + i % 4 by omega]
  exact flat_at key _ _ (by omega) (by omega)
end Go.Proofs.YtpkeofioobmmoaaGreatDoor.ae
