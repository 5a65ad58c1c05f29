/-
  Contracts of node.Find at a known place, of node.Put of a leaf and of node.Cut of a key that is there. Condition: the node reads as one whose keys rise, of no more than three hundred of each, with something for each key.
-/
import Derived.Test.YtnifaldgofmciaaNeH
namespace Go.Proofs.Ytnifaldgofmciaa
open Go.RowKit
theorem step_bs1 {ops : Array Oper} {o : Oper} {a : Act} {w : World} {K : Act → World → Prop} {Q : Exit → Act → World → Prop} {E : Prop} (hgd : o.guard = none) (t n : Nat) (x : Operand) (ho : o.op = .buildSlice t n #[(0, x)])
    {u v' : Value} {w' : World} (hx : a.eval x = u) (hr : (Instr.buildSlice t n #[(0, u)]).run Try.prog w = .ok v' w') (hK : K (a.put o.dst v') w') : if Region.wanted o (yielded ops a.tmps) = true then Oper.wp Try.prog o a w K Q else E := by
  have hw : Region.wanted o (yielded ops a.tmps) = true := by simp [Region.wanted, hgd]
  rw [if_pos hw]
  unfold Oper.wp execOp
  simp only [ho, Sem.run_bind, Sem.run_pure, Result.andThen_ok, List.map_toArray, List.map_cons, List.map_nil, hx, hr]
  exact hK
set_option maxRecDepth 100000 in
set_option maxHeartbeats 8000000 in
theorem cut (A : Array Value) (n : NV) (i : Nat) (w : World) (hv : ND w (.agg A) n) (hA : okA 0 A) (hs : small n) (hw : wholeB n = true) (hi : i < n.ks.length) : Calls Try.prog 24 #[.agg A, .int .i64 (i : Int)] w (NewN w (cutN n i (i + 1))) := by
  have hz := z26
  obtain ⟨Z, hZ⟩ : ∃ Z : Array Value, Z = #[.bool false, .slice none 0 0, .slice none 0 0, .slice none 0 0] := ⟨_, rfl⟩
  rw [← hZ] at hz
  have Z4 : Hid (Z.size = 4) := by show _ = _; rw [hZ]; rfl
  clear hZ
  have IA := Lib.hid hA.info
  have WH : Hid (∀ W, ND W (.agg A) n → Calls Try.prog 37 #[.agg A] W fun e w' => e = .returned (.bool true) ∧ Below W.heap.size W w') := fun W h => by have := whole _ n W h; rw [hw] at this; exact this
  have WO : Hid (∀ W, ND W (.agg A) n → Calls Try.prog 38 #[.agg A, .int .i64 (i : Int), .int .i64 ((i : Int) + 1)] W (NewN W (cutN n i (i + 1)))) := fun W h => without A n i (i + 1) W h hA hs
  obtain ⟨x1, c1, a1, _⟩ := hv.keys
  have AA1 := Lib.hid a1
  have hl : (n.ks.length : Int) ≤ 300 := by have := hs.1; omega
  have hii : (i : Int) < (n.ks.length : Int) := by omega
  have hge : ¬ ((n.ks.length : Int) ≤ (i : Int)) := by omega
  generalize n.ks.length = l at *
  obtain ⟨W1, hW1⟩ : ∃ W1, W1 = (w.alloc (.cells A 26)).alloc (.cells Z 26) := ⟨_, rfl⟩
  have b0 : Below w.heap.size w (w.alloc (.cells A 26)) := (Below.refl _ _).alloc (Nat.le_refl _) _
  have b1 : Below w.heap.size w W1 := by rw [hW1]; exact b0.alloc (by simp) _
  have G0 : Hid (W1.heap[w.heap.size]? = some (.cells A 26 (0, 0))) := by show _ = _; rw [hW1, Below.heap_alloc _ _ _ (by simp)]; exact heap_alloc_new w _
  have G1 : Hid (W1.heap[w.heap.size + 1]? = some (.cells Z 26 (0, 0))) := by
    show _ = _
    rw [hW1]
    have := heap_alloc_new (w.alloc (.cells A 26)) (.cells Z 26)
    simpa using this
  have NR := Lib.hid (hv.below b1)
  have B1 := Lib.hid b1
  have HW1 := Lib.hid hW1
  clear hW1 b0 b1 hv hA hs hw a1 hi
  generalize cutN n i (i + 1) = R at *
  go_enter Try.func24, Try.ntmps24
  go_upto_region 1 with (fail)
  rw [← HW1.out]
  clear hz
  go_wp2_with (refine wpList_load_row rfl 26 (.tmp 2) rfl w.heap.size rfl 26 A (0, 0) _ G0.out Try.underlying26 rfl IA.out ?_)
  refine (WH.out _ NR.out).mono ?_
  rintro e w2 ⟨rfl, hb⟩
  have B1 := Lib.hid (B1.out.trans (hb.mono B1.out.size))
  have G0 := Lib.hid ((hb.block _ (blk_lt G0.out)).trans G0.out)
  have G1 := Lib.hid ((hb.block _ (blk_lt G1.out)).trans G1.out)
  have NR := Lib.hid (NR.out.below hb)
  clear hb
  have cc := (cell_row G0.out 1).trans AA1.out
  go_wp2_with (refine wpList_load_row rfl 26 (.tmp 2) rfl w.heap.size rfl 26 A (0, 0) _ G0.out Try.underlying26 rfl IA.out ?_)
  refine (WO.out _ NR.out).mono ?_
  rintro e w3 ⟨X, rfl, hn, hok, hb⟩
  have lt1 := blk_lt G1.out
  have B1 := Lib.hid (B1.out.trans (hb.mono B1.out.size))
  have G1 := Lib.hid ((hb.block _ (blk_lt G1.out)).trans G1.out)
  clear hb cc
  have S1 : Hid (Z.size = X.size) := by show _ = _; rw [Z4.out, hok.four]
  have IX := Lib.hid hok.info
  have OX := Lib.hid hok.one
  have nX := hn.setRow (cs := X) hok lt1
  have q1 := Lib.hid (setRow_heap w3 (w.heap.size + 1) _ X 26 _ G1.out)
  have b2 := B1.out.trans (below_row (B := w.heap.size) w3 X (show w.heap.size ≤ w.heap.size + 1 by omega))
  have OKX := Lib.hid (hok.le (show w.heap.size ≤ w2.heap.size by omega))
  have NX := Lib.hid nX
  have B2 := Lib.hid b2
  clear hn hok nX b2 lt1
  go_wp2_with (refine wpList_store_row rfl 26 (.tmp 4) (.tmp 24) rfl (w.heap.size + 1) X rfl rfl 26 Z G1.out IX.out S1.out OX.out ?_)
  exact bodyPost_ret (v := .agg X) (results_cell_row Try.results24 _ _ (w.heap.size + 1) 26 _ (0, 0) _ rfl q1.out Try.underlying26 rfl IX.out) rfl
    ⟨_, rfl, NX.out, OKX.out, B2.out⟩
end Go.Proofs.Ytnifaldgofmciaa
