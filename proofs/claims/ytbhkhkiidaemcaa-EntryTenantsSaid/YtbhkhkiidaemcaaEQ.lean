/-
  Contracts of the functions that the statements of package entry go through: what must come of fixed calls. No condition.
-/
import Derived.Test.YtbhkhkiidaemcaaEM
import Derived.Test.YtbhkhkiidaemcaaEO
namespace Go.Proofs.Ytbhkhkiidaemcaa
open Go.RowKit
theorem vN_vW {n b : Int} (h : 0 ≤ n ∧ n ≤ 18446744073709551615) : vN (vW n b) = n := by
  have e : pt (vW n b) 0 8 = be 8 n := by
    show pt ([] ++ ([be 8 n, be 4 b].flatten ++ _)) 0 8 = _
    rw [show ([be 8 n, be 4 b] : List (List Int)).flatten = be 8 n ++ be 4 b by simp, List.append_assoc]
    exact pt_at [] (be 8 n) _ 0 8 rfl (be_len _ _)
  unfold vN
  rw [e, num_be8 h]
theorem vB_vW {n b : Int} (h : 0 ≤ b ∧ b ≤ 4294967295) : vB (vW n b) = b := by
  have e : pt (vW n b) 8 4 = be 4 b := by
    show pt ([be 8 n, be 4 b].flatten ++ _) 8 4 = _
    rw [show ([be 8 n, be 4 b] : List (List Int)).flatten = be 8 n ++ be 4 b by simp, List.append_assoc]
    exact pt_at (be 8 n) (be 4 b) _ 8 4 (be_len _ _) (be_len _ _)
  unfold vB
  rw [e, num_be4 h]
theorem cN_cW {n : Int} (h : 0 ≤ n ∧ n ≤ 18446744073709551615) : numI (pt (cW n) 0 8) = n := by
  have e : pt (cW n) 0 8 = be 8 n := by
    show pt ([] ++ ([be 8 n].flatten ++ _)) 0 8 = _
    rw [show ([be 8 n] : List (List Int)).flatten = be 8 n by simp]
    exact pt_at [] (be 8 n) _ 0 8 rfl (be_len _ _)
  rw [e, num_be8 h]
theorem i30r (X : Array Value) (h : X.size = 2) : (Try.prog.info? 30).map (·.size) = some X.size := by rw [h]; kernel_rfl
set_option maxRecDepth 100000 in
theorem eq30 (n b n' b' : Int) (w : World) : (Op.equalIn 10000 30 (.agg (vcells n b)) (.agg (vcells n' b'))).run Try.prog w = .ok (decide (n = n' ∧ b = b')) w := by
  rw [run_equalIn_struct w 9999 30 _ _ (by kernel_rfl) (by kernel_rfl)]
  have hf : (Try.prog.fieldsOf 30).toList.map (fun f => (decide (f.name ≠ "_"), f.type, f.offset)) = [(true, 22, 0), (true, 3, 1)] := by kernel_rfl
  obtain ⟨f1, r1, e1, a1, b1, c1, g1⟩ := fields_cons hf
  obtain ⟨f2, r2, e2, a2, b2, c2, g2⟩ := fields_cons g1
  have e4 : r2 = [] := by simpa using g2
  rw [e1, e2, e4]
  rw [eqFields_int 9998 22 .u64 0 (by kernel_rfl) _ _ n n' rfl rfl f1 _ a1 b1 c1 _ w
    (eqFields_int 9998 3 .i64 1 (by kernel_rfl) _ _ b b' rfl rfl f2 _ a2 b2 c2 _ w (eqFields_nil _ _ _ _ w))]
  congr 1
  by_cases h1 : n = n'
  · by_cases h2 : b = b'
    · simp [h1, h2]
    · simp [h2]
  · simp [h1]
theorem wpList_build_anym {ops : Array Oper} {rest : List Oper} {o : Oper} {a : Act} {w : World} {Q : Exit → Act → World → Prop} (hw : Region.wanted o (yielded ops a.tmps) = true) (t : TypeId) (parts : Array (Nat × Operand)) (ho : o.op = .build t parts)
    (vs : Array (Nat × Value)) (hv : parts.map (fun (i, x) => (i, a.eval x)) = vs) {v : Value} (hr : (Instr.build t vs).run Try.prog w = .ok v w) (h : wpList Try.prog ops Q rest (a.put o.dst v) w) : wpList Try.prog ops Q (o :: rest) a w := by
  refine wpList_wanted hw fun K hK => ?_
  subst hv
  unfold Oper.wp execOp
  simp only [ho, Sem.run_bind, Sem.run_pure]
  rw [hr]
  exact hK _ _ h
def AliveP (w : World) (e : Ending) (w' : World) : Prop := e = .returned (.bool true) ∧ Below w.heap.size w w'
def vA : List Int := vW 3 256
theorem vA_7 : nth vA 7 = 3 := by decide
theorem vA_10 : nth vA 10 = 1 := by decide
set_option maxRecDepth 100000 in
set_option maxHeartbeats 8000000 in
theorem alive23 (w : World) : Calls Try.prog 14 #[] w (AliveP w) := by
  have K1 : Hid (∀ W, Calls Try.prog 10 #[.int .i64 1, .int .i64 0] W fun e w' => e = .returned (.tuple #[.int .u64 4294967297, .int .i64 0]) ∧ W = w') := fun W => blkKey 1 0 W
  have K2 : Hid (∀ W, Calls Try.prog 16 #[.agg (vcells 3 256)] W fun e w' => e = .returned (.tuple #[.agg (bcells vA), .int .i64 0]) ∧ Below W.heap.size W w') := fun W => writeVol_yes 3 256 (by decide) (by decide) (by decide) W
  have K3 : Hid (∀ W, Calls Try.prog 21 #[.agg (bcells vA)] W fun e w' => e = .returned (.tuple #[.agg (vcells 3 256), .int .i64 0]) ∧ Below W.heap.size W w') := fun W => by
    have h := readVol vA (vW_byt 3 256) (vW_len 3 256) W
    unfold ChP at h
    have e1 : vN vA = 3 := vN_vW (by decide)
    have e2 : vB vA = 256 := vB_vW (by decide)
    rw [e1, e2, if_pos ⟨by decide, rfl⟩, if_pos ⟨by decide, rfl⟩] at h
    exact h
  have K4 : Hid (∀ W, Calls Try.prog 16 #[.agg (vcells 3 0)] W fun e w' => e = .returned (.tuple #[.agg (bcells (zs 44)), .int .i64 3]) ∧ Below W.heap.size W w') := fun W => writeVol_no 3 0 (by decide) W
  have K5 : Hid (∀ W, Calls Try.prog 15 #[.int .u64 9] W fun e w' => e = .returned (.agg (bcells (cW 9))) ∧ Below W.heap.size W w') := fun W => writeCount 9 (by decide) (by decide) W
  have K6 : Hid (∀ W, Calls Try.prog 20 #[.agg (bcells (cW 9))] W fun e w' => e = .returned (.tuple #[.int .u64 9, .int .i64 0]) ∧ Below W.heap.size W w') := fun W => by
    have h := readCount (cW 9) (cW_byt 9) (cW_len 9) W
    unfold ChP at h
    have e1 : numI (pt (cW 9) 0 8) = 9 := cN_cW (by decide)
    rw [e1, if_pos ⟨trivial, rfl⟩, if_pos ⟨trivial, rfl⟩] at h
    exact h
  have B1 := Lib.hid (bld30c 3 256)
  have B2 : Hid (∀ w : World, (Instr.build 30 #[(0, .int .u64 3)]).run Try.prog w = .ok (.agg (vcells 3 0)) w) := fun w => by kernel_rfl
  have EQ := Lib.hid (fun W => eq30 3 256 3 256 W)
  have IA := Lib.hid (i38 (show vA.length = 44 from vW_len 3 256))
  have IZ8 := Lib.hid (i38 (zs_len 44))
  have SA := Lib.hid (bcells_sz (show (zs 44).length = vA.length by rw [zs_len]; exact (vW_len 3 256).symm))
  have OA := Lib.hid (one_cells vA)
  have OZ8 := Lib.hid (one_cells (zs 44))
  have HZ8 := z38
  have HZ3 := z30
  have IX : Hid ((Try.prog.info? 30).map (·.size) = some (vcells 3 256).size) := i30
  have OX := Lib.hid (one_v 3 256)
  have SX : Hid ((vcells 0 0).size = (vcells 3 256).size) := rfl
  have CA : Hid (∀ (W : World) (g : Nat), W.heap[g]? = some (.cells (bcells vA) 38 (0, 0)) → W.cell? ⟨g, 7, none⟩ = some (.int .u8 3) ∧ W.cell? ⟨g, 10, none⟩ = some (.int .u8 1)) := fun W g h => by
    rw [cell_of_row _ _ _ _ _ _ h, cell_of_row _ _ _ _ _ _ h]
    have h7 : vA[7]? = some 3 := by decide
    have h10 : vA[10]? = some 1 := by decide
    constructor
    · simp [bcells, h7]
    · simp [bcells, h10]
  have eq : ∀ w : World, (Op.equalIn 10000 30 (.agg (vcells 3 256)) (.agg (vcells 3 256))).run Try.prog w = .ok true w := fun W => by rw [EQ.out W]; rfl
  clear EQ
  have BE : Hid (Below w.heap.size w w) := Below.refl _ _
  generalize bcells vA = CA0 at *
  generalize bcells (zs 44) = Z8 at *
  generalize bcells (cW 9) = C9 at *
  generalize vcells 3 256 = X at *
  generalize vcells 3 0 = X0 at *
  generalize vcells 0 0 = Zx at *
  go_enter Try.func14, Try.ntmps14
  go_wp2_with fail
  refine (K1.out _).mono ?_
  rintro e w' ⟨rfl, rfl⟩
  go_wp2_with (refine wpList_build_any rfl 30 #[(0, .const (.int .u64 3)), (1, .const (.int .i64 256))] rfl #[(0, .int .u64 3), (1, .int .i64 256)] (by kernel_rfl) (B1.out _) ?_)
  refine (K2.out _).mono ?_
  rintro e w1 ⟨rfl, hb⟩
  have BE1 := Lib.hid (BE.out.trans (hb.mono BE.out.size))
  clear hb BE
  have GN := Lib.hid (heap_alloc_new w1 (.cells Z8 38))
  have RN := Lib.hid (alloc_setRowT w1 Z8 CA0 38 _ rfl)
  have hal : Below w1.heap.size w1 (w1.alloc (.cells CA0 38)) := (Below.refl _ _).alloc (Nat.le_refl _) _
  have GV := Lib.hid (heap_alloc_new w1 (.cells CA0 38))
  have BE2 := Lib.hid (BE1.out.trans (hal.mono BE1.out.size))
  clear hal BE1
  go_upto_region 3 with (refine wpList_store_row rfl 38 (.tmp 3) (.tmp 18) rfl w1.heap.size CA0 rfl rfl 38 Z8 GN.out IA.out SA.out OA.out ?_)
  rw [RN.out]
  generalize w1.alloc (.cells CA0 38) = w2 at *
  generalize w1.heap.size = g3 at *
  clear GN RN
  go_wp2_with (refine wpList_load_row rfl 38 (.tmp 3) rfl g3 rfl 38 CA0 (0, 0) _ GV.out Try.underlying38 rfl IA.out ?_)
  refine (K3.out _).mono ?_
  rintro e w3 ⟨rfl, hb⟩
  have BE3 := Lib.hid (BE2.out.trans (hb.mono BE2.out.size))
  have GV3 := Lib.hid ((hb.block _ (blk_lt GV.out)).trans GV.out)
  clear hb BE2 GV
  have GN := Lib.hid (heap_alloc_new w3 (.cells Zx 30))
  have RN := Lib.hid (alloc_setRowT w3 Zx X 30 _ rfl)
  have hal : Below w3.heap.size w3 (w3.alloc (.cells X 30)) := (Below.refl _ _).alloc (Nat.le_refl _) _
  have GX := Lib.hid (heap_alloc_new w3 (.cells X 30))
  have BE4 := Lib.hid (BE3.out.trans (hal.mono BE3.out.size))
  have GV4 := Lib.hid ((hal.block _ (blk_lt GV3.out)).trans GV3.out)
  clear hal BE3 GV3
  go_upto_region 4 with (refine wpList_store_row rfl 30 (.tmp 5) (.tmp 23) rfl w3.heap.size X rfl rfl 30 Zx GN.out IX.out SX.out OX.out ?_)
  rw [RN.out]
  generalize w3.alloc (.cells X 30) = w4 at *
  generalize w3.heap.size = g5 at *
  clear GN RN
  go_wp2_with (refine wpList_build_any rfl 30 #[(0, .const (.int .u64 3))] rfl #[(0, .int .u64 3)] (by kernel_rfl) (B2.out _) ?_)
  refine (K4.out _).mono ?_
  rintro e w5 ⟨rfl, hb⟩
  have BE5 := Lib.hid (BE4.out.trans (hb.mono BE4.out.size))
  have GV5 := Lib.hid ((hb.block _ (blk_lt GV4.out)).trans GV4.out)
  have GX5 := Lib.hid ((hb.block _ (blk_lt GX.out)).trans GX.out)
  clear hb BE4 GV4 GX
  have GN := Lib.hid (heap_alloc_new w5 (.cells Z8 38))
  have RN := Lib.hid (alloc_setRowT w5 Z8 Z8 38 _ rfl)
  have hal : Below w5.heap.size w5 (w5.alloc (.cells Z8 38)) := (Below.refl _ _).alloc (Nat.le_refl _) _
  have BE6 := Lib.hid (BE5.out.trans (hal.mono BE5.out.size))
  have GV6 := Lib.hid ((hal.block _ (blk_lt GV5.out)).trans GV5.out)
  have GX6 := Lib.hid ((hal.block _ (blk_lt GX5.out)).trans GX5.out)
  clear hal BE5 GV5 GX5
  go_upto_region 5 with (refine wpList_store_row rfl 38 (.tmp 7) (.tmp 28) rfl w5.heap.size Z8 rfl rfl 38 Z8 GN.out IZ8.out rfl OZ8.out ?_)
  rw [RN.out]
  generalize w5.alloc (.cells Z8 38) = w6 at *
  generalize w5.heap.size = g7 at *
  clear GN RN
  go_wp2_with fail
  refine (K5.out _).mono ?_
  rintro e w7 ⟨rfl, hb⟩
  have BE7 := Lib.hid (BE6.out.trans (hb.mono BE6.out.size))
  have GV7 := Lib.hid ((hb.block _ (blk_lt GV6.out)).trans GV6.out)
  have GX7 := Lib.hid ((hb.block _ (blk_lt GX6.out)).trans GX6.out)
  clear hb BE6 GV6 GX6
  go_wp2_with fail
  refine (K6.out _).mono ?_
  rintro e w8 ⟨rfl, hb⟩
  have BE8 := Lib.hid (BE7.out.trans (hb.mono BE7.out.size))
  have GV8 := Lib.hid ((hb.block _ (blk_lt GV7.out)).trans GV7.out)
  have GX8 := Lib.hid ((hb.block _ (blk_lt GX7.out)).trans GX7.out)
  clear hb BE7 GV7 GX7
  obtain ⟨c7, c10⟩ := CA.out _ _ GV8.out
  go_wp2_with (first
    | (refine wpList_load_met rfl 30 (.tmp 5) rfl g5 rfl 30 X (0, 0) _ GX8.out Try.underlying30 ⟨_, rfl⟩ IX.out ?_)
    | (refine wpList_build_anym rfl 30 #[(0, .const (.int .u64 3)), (1, .const (.int .i64 256))] rfl #[(0, .int .u64 3), (1, .int .i64 256)] (by kernel_rfl) (B1.out _) ?_))
  go_ret
  exact ⟨rfl, BE8.out⟩
end Go.Proofs.Ytbhkhkiidaemcaa
