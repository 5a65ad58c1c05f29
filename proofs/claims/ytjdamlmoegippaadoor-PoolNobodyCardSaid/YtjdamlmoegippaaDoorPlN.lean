/-
  The walk of PoolNobody. Condition: the two tables of package sha stand in memory.
-/
import Derived.Test.YtjdamlmoegippaaDoorPlI
namespace Go.Proofs.YtjdamlmoegippaaDoor.pl
open Go.RowKit
theorem z33 : ∃ Z : Array Value, Z[0]? = some (.pointer none) ∧ Z[1]? = some (.pointer none) ∧ ∀ w, (zeroValue 33).run Tryd.prog w = .ok (.agg Z) w :=
  ⟨#[.pointer none, .pointer none, .pointer none, .nilFunc], rfl, rfl, fun _ => by kernel_rfl⟩
set_option maxRecDepth 100000 in
set_option maxHeartbeats 4000000 in
theorem nobody (w : World) (hG : hl.Glob w) (t : Int) (y : Nat) (R : Array Value) (hR : R.size = 33) : Calls Tryd.prog 3 #[.int .i64 t, .int .u8 (y : Int), .agg R] w (AliveP w) := by
  have h2 := hG.lt
  have ir : (Tryd.prog.info? 26).map (·.size) = some R.size := by rw [hR]; kernel_rfl
  have IR := Lib.hid ir
  obtain ⟨Z, hZ⟩ : ∃ Z, Z = zr := ⟨_, rfl⟩
  have z := z26
  have i0 := i26
  have o0 := o26
  rw [← hZ] at z i0 o0
  have HZ := Lib.hid z
  have IZ := Lib.hid i0
  have OZ := Lib.hid o0
  have HZE := Lib.hid hZ
  obtain ⟨Y, y0, y1, yz⟩ := z33
  have HY := Lib.hid yz
  obtain ⟨w1, hw1⟩ : ∃ w1, w1 = w.alloc (.cells R 26) := ⟨_, rfl⟩
  have b1 : Below w.heap.size w w1 := by rw [hw1]; exact (Below.refl _ _).alloc (Nat.le_refl _) _
  have GR : Hid (w1.heap[w.heap.size]? = some (.cells R 26 (0, 0))) := by show _ = _; rw [hw1]; exact heap_alloc_new w _
  have HW1 := Lib.hid hw1
  obtain ⟨w2, hw2⟩ : ∃ w2, w2 = w1.alloc (.cells Y 33) := ⟨_, rfl⟩
  have b2 : Below w1.heap.size w1 w2 := by rw [hw2]; exact (Below.refl _ _).alloc (Nat.le_refl _) _
  have GY : Hid (w2.heap[w1.heap.size]? = some (.cells Y 33 (0, 0))) := by show _ = _; rw [hw2]; exact heap_alloc_new w1 _
  have G1 := Lib.hid ((b2.block _ (blk_lt GR.out)).trans GR.out)
  have HW2 := Lib.hid hw2
  have BE := Lib.hid (b1.trans (b2.mono b1.size))
  have GL := Lib.hid ((hG.below b1 (by omega)).below b2 (by have := b1.size; omega))
  have GLB : Hid (∀ W, Below w2.heap.size w2 W → hl.Glob W) := fun W h => GL.out.below h (by have := b1.size; have := b2.size; omega)
  have NPY : Hid (∀ W : World, W.heap[w1.heap.size]? = some (.cells Y 33 (0, 0)) → NP W (.pointer (some ⟨w1.heap.size, 0, none⟩))) := fun W h => .inr ⟨_, rfl, by rw [cell_row h]; exact y0⟩
  have CY1 : Hid (∀ W : World, W.heap[w1.heap.size]? = some (.cells Y 33 (0, 0)) → W.cell? ⟨w1.heap.size, 1, none⟩ = some (.pointer none)) := fun W h => by rw [cell_row h]; exact y1
  have BB := Lib.hid (Below.refl w2.heap.size w2)
  have FX : Hid (∀ W, Calls Tryd.prog 8 #[.int .u8 (y : Int), .int .i64 0] W fun e w' => ∃ b, e = .returned (.slice (some ⟨b, 0, none⟩) 512 512) ∧ dk.TX w' (.slice (some ⟨b, 0, none⟩) 512 512) (dk.tx y) ∧ W.heap.size ≤ b ∧ Below W.heap.size W w') := fun W => fullX y W
  have PN : Hid (∀ p v W, NP W p → Calls Tryd.prog 7 #[p, .int .i64 t, v] W fun e w' => e = .returned (.tuple #[.agg Z, .int .i64 6]) ∧ Below W.heap.size W w') := fun p v W h => by rw [hZ]; exact put_no p t v W h
  have GN : Hid (∀ p W, NP W p → Calls Tryd.prog 9 #[p, .agg R] W fun e w' => e = .returned (.tuple #[.slice none 0 0, .int .i64 6]) ∧ Below W.heap.size W w') := fun p W h => get_no p R W h
  have NN : Hid (∀ W, Calls Tryd.prog 10 #[.pointer none, .int .i64 0, .int .i64 1, .pointer none] W fun e w' => e = .returned (.tuple #[.pointer none, .int .i64 6]) ∧ Below W.heap.size W w') := fun W => new_nil 0 1 (.pointer none) W
  have AL : Hid (∀ W, hl.Glob W → Calls Tryd.prog 11 #[] W (AliveP W)) := alive
  have NIL : Hid (∀ W, NP W (.pointer none)) := fun W => .inl rfl
  clear h2 ir z i0 o0 hZ yz y0 y1 hw1 b1 GR hw2 b2 hG hR GL
  go_enter Tryd.func3, Tryd.ntmps3
  go_wp2_with (first | (rw [← HW1.out]) | (refine wpList_alloc_zD rfl 33 rfl (HY.out _) ?_; rw [← HW2.out]))
  refine (FX.out w2).mono ?_
  rintro e wk1 ⟨b, rfl, _, _, hb⟩
  have qBE := BE.out.trans (hb.mono BE.out.size)
  have qBB := BB.out.trans (hb.mono BB.out.size)
  have qG1 := (hb.block _ (blk_lt G1.out)).trans G1.out
  have qGY := (hb.block _ (blk_lt GY.out)).trans GY.out
  clear BE BB G1 GY
  have BE := Lib.hid qBE
  have BB := Lib.hid qBB
  have G1 := Lib.hid qG1
  have GY := Lib.hid qGY
  clear qBE qBB qG1 qGY

  clear hb
  go_wp2_with fail
  refine (PN.out _ _ wk1 (NIL.out wk1)).mono ?_
  rintro e wk2 ⟨rfl, hb⟩
  have qBE := BE.out.trans (hb.mono BE.out.size)
  have qBB := BB.out.trans (hb.mono BB.out.size)
  have qG1 := (hb.block _ (blk_lt G1.out)).trans G1.out
  have qGY := (hb.block _ (blk_lt GY.out)).trans GY.out
  clear BE BB G1 GY
  have BE := Lib.hid qBE
  have BB := Lib.hid qBB
  have G1 := Lib.hid qG1
  have GY := Lib.hid qGY
  clear qBE qBB qG1 qGY

  clear hb
  obtain ⟨wk3, hwk3⟩ : ∃ x, x = wk2.alloc (.cells Z 26) := ⟨_, rfl⟩
  have RN3 : Hid ((wk2.alloc (.cells Z 26)).setRow wk2.heap.size Z = wk3) := by show _ = _; rw [hwk3]; exact alloc_setRowD wk2 Z Z 26 _ rfl
  have GZ3 : Hid ((wk2.alloc (.cells Z 26)).heap[wk2.heap.size]? = some (.cells Z 26 (0, 0))) := heap_alloc_new wk2 _
  have hb : Below wk2.heap.size wk2 wk3 := by rw [hwk3]; exact (Below.refl _ _).alloc (Nat.le_refl _) _
  have q0 : wk3.heap[wk2.heap.size]? = some (.cells Z 26 (0, 0)) := by rw [hwk3]; exact heap_alloc_new wk2 _
  have qBE := BE.out.trans (hb.mono BE.out.size)
  have qBB := BB.out.trans (hb.mono BB.out.size)
  have qG1 := (hb.block _ (blk_lt G1.out)).trans G1.out
  have qGY := (hb.block _ (blk_lt GY.out)).trans GY.out
  clear BE BB G1 GY
  have BE := Lib.hid qBE
  have BB := Lib.hid qBB
  have G1 := Lib.hid qG1
  have GY := Lib.hid qGY
  clear qBE qBB qG1 qGY
  have Z1 := Lib.hid q0
  clear q0 hb hwk3
  go_upto_region 4 with (refine wpList_alloc_zD rfl 26 rfl (HZ.out _) ?_; refine wpList_store_row rfl 26 (.tmp 9) (.tmp 25) rfl wk2.heap.size Z rfl rfl 26 Z GZ3.out IZ.out rfl OZ.out ?_; rw [RN3.out])
  clear Z1
  go_wp2_with fail
  refine (FX.out wk3).mono ?_
  rintro e wk4 ⟨b, rfl, _, _, hb⟩
  have qBE := BE.out.trans (hb.mono BE.out.size)
  have qBB := BB.out.trans (hb.mono BB.out.size)
  have qG1 := (hb.block _ (blk_lt G1.out)).trans G1.out
  have qGY := (hb.block _ (blk_lt GY.out)).trans GY.out
  clear BE BB G1 GY
  have BE := Lib.hid qBE
  have BB := Lib.hid qBB
  have G1 := Lib.hid qG1
  have GY := Lib.hid qGY
  clear qBE qBB qG1 qGY

  clear hb
  go_wp2_with fail
  refine (PN.out _ _ wk4 (NPY.out wk4 GY.out)).mono ?_
  rintro e wk5 ⟨rfl, hb⟩
  have qBE := BE.out.trans (hb.mono BE.out.size)
  have qBB := BB.out.trans (hb.mono BB.out.size)
  have qG1 := (hb.block _ (blk_lt G1.out)).trans G1.out
  have qGY := (hb.block _ (blk_lt GY.out)).trans GY.out
  clear BE BB G1 GY
  have BE := Lib.hid qBE
  have BB := Lib.hid qBB
  have G1 := Lib.hid qG1
  have GY := Lib.hid qGY
  clear qBE qBB qG1 qGY

  clear hb
  obtain ⟨wk6, hwk6⟩ : ∃ x, x = wk5.alloc (.cells Z 26) := ⟨_, rfl⟩
  have RN6 : Hid ((wk5.alloc (.cells Z 26)).setRow wk5.heap.size Z = wk6) := by show _ = _; rw [hwk6]; exact alloc_setRowD wk5 Z Z 26 _ rfl
  have GZ6 : Hid ((wk5.alloc (.cells Z 26)).heap[wk5.heap.size]? = some (.cells Z 26 (0, 0))) := heap_alloc_new wk5 _
  have hb : Below wk5.heap.size wk5 wk6 := by rw [hwk6]; exact (Below.refl _ _).alloc (Nat.le_refl _) _
  have q0 : wk6.heap[wk5.heap.size]? = some (.cells Z 26 (0, 0)) := by rw [hwk6]; exact heap_alloc_new wk5 _
  have qBE := BE.out.trans (hb.mono BE.out.size)
  have qBB := BB.out.trans (hb.mono BB.out.size)
  have qG1 := (hb.block _ (blk_lt G1.out)).trans G1.out
  have qGY := (hb.block _ (blk_lt GY.out)).trans GY.out
  clear BE BB G1 GY
  have BE := Lib.hid qBE
  have BB := Lib.hid qBB
  have G1 := Lib.hid qG1
  have GY := Lib.hid qGY
  clear qBE qBB qG1 qGY
  have Z2 := Lib.hid q0
  clear q0 hb hwk6
  go_upto_region 5 with (refine wpList_alloc_zD rfl 26 rfl (HZ.out _) ?_; refine wpList_store_row rfl 26 (.tmp 11) (.tmp 32) rfl wk5.heap.size Z rfl rfl 26 Z GZ6.out IZ.out rfl OZ.out ?_; rw [RN6.out])
  clear Z2
  go_wp2_with (refine wpList_load_row rfl 26 (.tmp 5) rfl w.heap.size rfl 26 R (0, 0) _ G1.out Tryd.underlying26 rfl IR.out ?_)
  refine (GN.out _ wk6 (NIL.out wk6)).mono ?_
  rintro e wk7 ⟨rfl, hb⟩
  have qBE := BE.out.trans (hb.mono BE.out.size)
  have qBB := BB.out.trans (hb.mono BB.out.size)
  have qG1 := (hb.block _ (blk_lt G1.out)).trans G1.out
  have qGY := (hb.block _ (blk_lt GY.out)).trans GY.out
  clear BE BB G1 GY
  have BE := Lib.hid qBE
  have BB := Lib.hid qBB
  have G1 := Lib.hid qG1
  have GY := Lib.hid qGY
  clear qBE qBB qG1 qGY

  clear hb
  go_wp2_with (refine wpList_load_row rfl 26 (.tmp 5) rfl w.heap.size rfl 26 R (0, 0) _ G1.out Tryd.underlying26 rfl IR.out ?_)
  refine (GN.out _ wk7 (NPY.out wk7 GY.out)).mono ?_
  rintro e wk8 ⟨rfl, hb⟩
  have qBE := BE.out.trans (hb.mono BE.out.size)
  have qBB := BB.out.trans (hb.mono BB.out.size)
  have qG1 := (hb.block _ (blk_lt G1.out)).trans G1.out
  have qGY := (hb.block _ (blk_lt GY.out)).trans GY.out
  clear BE BB G1 GY
  have BE := Lib.hid qBE
  have BB := Lib.hid qBB
  have G1 := Lib.hid qG1
  have GY := Lib.hid qGY
  clear qBE qBB qG1 qGY

  clear hb
  go_wp2_with fail
  refine (NN.out wk8).mono ?_
  rintro e wk9 ⟨rfl, hb⟩
  have qBE := BE.out.trans (hb.mono BE.out.size)
  have qBB := BB.out.trans (hb.mono BB.out.size)
  have qG1 := (hb.block _ (blk_lt G1.out)).trans G1.out
  have qGY := (hb.block _ (blk_lt GY.out)).trans GY.out
  clear BE BB G1 GY
  have BE := Lib.hid qBE
  have BB := Lib.hid qBB
  have G1 := Lib.hid qG1
  have GY := Lib.hid qGY
  clear qBE qBB qG1 qGY

  clear hb
  go_wp2_with fail
  refine (AL.out wk9 (GLB.out wk9 BB.out)).mono ?_
  rintro e wk10 ⟨rfl, hb⟩
  have qBE := BE.out.trans (hb.mono BE.out.size)
  have qBB := BB.out.trans (hb.mono BB.out.size)
  have qG1 := (hb.block _ (blk_lt G1.out)).trans G1.out
  have qGY := (hb.block _ (blk_lt GY.out)).trans GY.out
  clear BE BB G1 GY
  have BE := Lib.hid qBE
  have BB := Lib.hid qBB
  have G1 := Lib.hid qG1
  have GY := Lib.hid qGY
  clear qBE qBB qG1 qGY

  clear hb
  go_wp2_with fail
  refine (field_nil wk10).mono ?_
  rintro e w' ⟨rfl, rfl⟩
  go_wp2_with fail
  refine (field_at _ none wk10 (CY1.out wk10 GY.out)).mono ?_
  rintro e w' ⟨rfl, rfl⟩
  go_wp2_with fail
  refine (clash_no _ wk10 (NIL.out wk10)).mono ?_
  rintro e w' ⟨rfl, rfl⟩
  go_wp2_with fail
  refine (clash_no _ wk10 (NPY.out wk10 GY.out)).mono ?_
  rintro e w' ⟨rfl, rfl⟩
  go_wp2_with fail
  go_ret
  exact ⟨rfl, BE.out⟩
end Go.Proofs.YtjdamlmoegippaaDoor.pl
