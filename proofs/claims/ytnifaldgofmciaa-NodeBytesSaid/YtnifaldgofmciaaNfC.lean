/-
  Contract of the statements' As. Condition: the node reads as one, of no more than a hundred of each.
-/
import Derived.Test.YtnifaldgofmciaaNfB
import Derived.OwnWalk
namespace Go.Proofs.Ytnifaldgofmciaa
open Go.RowKit
open oc (Byt Sees Own be nth)
def AsP (w : World) (n : NV) (e : Ending) (w' : World) : Prop := ∃ O, e = .returned (.tuple #[.agg O, .bool (okN n)]) ∧ DM w' (.agg O) (asN n) ∧ Below w.heap.size w w'
theorem ps_nil (w : World) : PS w (.slice none 0 0) [] := ⟨[], rfl, ES.nil 0, ⟨_, _, _, rfl, Nat.le_refl _, by omega⟩, fun r hr => by cases hr⟩
theorem sees_rng {w : World} {b o k : Nat} {z : List Int} (h : w.rangeAt b o (z.map (Value.int .u8))) (hz : ∀ x ∈ z, 0 ≤ x ∧ x ≤ 255) (hk : z.length = k) (h0 : 0 < k) (hm : k ≤ 1000) : Sees w (.slice (some ⟨b, o, none⟩) k k) z := by
  subst hk
  refine ⟨hz, .inr (.inr ⟨b, o, z.length, rfl, fun e => by rw [e] at h0; exact absurd h0 (by decide), Nat.le_refl _, by unfold maxLen; omega, fun i hi => ?_⟩)⟩
  refine h i _ ?_
  simp [nth, List.getD, hi]
theorem own_le {w : World} {a b : Nat} {v : Value} {xs : List Int} (h : Own w b v xs) (hab : a ≤ b) : Own w a v xs := by
  obtain ⟨hb1, hl1, h⟩ := h
  refine ⟨hb1, hl1, ?_⟩
  rcases h with h | ⟨g, cap', cur, e1, e2, e3⟩
  · exact .inl h
  · exact .inr ⟨g, cap', cur, e1, Nat.le_trans hab e2, e3⟩
theorem parts_at (n : NV) (i : Nat) (hi : i < n.ks.length) : (parts n)[i]? = some (n.ks.getD i 0, bsN n i) := by
  unfold parts
  simp [hi]
theorem parts_len (n : NV) : (parts n).length = n.ks.length := by unfold parts; simp
set_option maxRecDepth 100000 in
set_option maxHeartbeats 16000000 in
theorem as_l1 (A : Array Value) (n : NV) (w : World) (hv : ND w (.agg A) n) (hlf : n.leaf = true) (hc : n.vs.length ≠ n.ks.length) : Calls Try.prog 9 #[.agg A] w (AsP w n) := by
  have hz := z32
  obtain ⟨Z, hZ⟩ : ∃ Z : Array Value, Z = #[.bool false, .slice none 0 0] := ⟨_, rfl⟩
  rw [← hZ] at hz
  have ZS : Hid (Z = #[.bool false, .slice none 0 0]) := hZ
  clear hZ
  have NR := Lib.hid hv
  obtain ⟨K, V, Q, e, h1, h2, h3, h4, h5⟩ := hv
  obtain ⟨x1, c1, rfl⟩ := h1.len
  obtain ⟨x2, c2, rfl⟩ := h2.len
  obtain ⟨x3, c3, rfl⟩ := h3.len
  injection e with e
  have A0 : Hid (A[0]? = some (.bool true)) := by show _ = _; rw [e, hlf]; rfl
  have A1 : Hid (A[1]? = some (.slice x1 n.ks.length c1)) := by show _ = _; rw [e]; rfl
  have A2 : Hid (A[2]? = some (.slice x2 n.vs.length c2)) := by show _ = _; rw [e]; rfl
  have A3 : Hid (A[3]? = some (.slice x3 n.qs.length c3)) := by show _ = _; rw [e]; rfl
  obtain ⟨W0, hW0⟩ : ∃ W0, W0 = (w.alloc (.cells A 26)).alloc (.cells Z 32) := ⟨_, rfl⟩
  have b0 : Below w.heap.size w (w.alloc (.cells A 26)) := (Below.refl _ _).alloc (Nat.le_refl _) _
  have b1 : Below w.heap.size w W0 := by rw [hW0]; exact b0.alloc (by simp) _
  have hsz : W0.heap.size = w.heap.size + 2 := by rw [hW0]; simp
  have G0 : W0.heap[w.heap.size]? = some (.cells A 26 (0, 0)) := by rw [hW0, Below.heap_alloc _ _ _ (by simp)]; exact heap_alloc_new w _
  have G1 : W0.heap[w.heap.size + 1]? = some (.cells Z 32 (0, 0)) := by
    rw [hW0]
    have := heap_alloc_new (w.alloc (.cells A 26)) (.cells Z 32)
    simpa using this
  obtain ⟨O, hO⟩ : ∃ O : Array Value, O = #[.bool true, .slice none 0 0] := ⟨_, rfl⟩
  have BU : Hid (∀ W, (Instr.build 32 #[(0, .bool true)]).run Try.prog W = .ok (.agg O) W) := by show ∀ _, _; rw [hO]; exact b32 true
  obtain ⟨W1, hW1⟩ : ∃ W1, W1 = W0.alloc (.cells O 32) := ⟨_, rfl⟩
  have al : Below W0.heap.size W0 W1 := by rw [hW1]; exact (Below.refl _ _).alloc (Nat.le_refl _) _
  have GN := Lib.hid (heap_alloc_new W0 (.cells Z 32))
  have RW : Hid ((W0.alloc (.cells Z 32)).setRow W0.heap.size O = W1) := by show _ = _; rw [hW1]; exact alloc_setRowT W0 Z O 32 _ rfl
  have g2 : W1.heap[w.heap.size + 2]? = some (.cells O 32 (0, 0)) := by rw [hW1, ← hsz]; exact heap_alloc_new W0 _
  have g0 := (al.block _ (blk_lt G0)).trans G0
  have g1 := (al.block _ (blk_lt G1)).trans G1
  have b2 := b1.trans (al.mono b1.size)
  have IO : Hid ((Try.prog.info? 32).map (·.size) = some O.size) := by show _ = _; rw [hO]; exact i32 _ _
  have SO : Hid (Z.size = O.size) := by show _ = _; rw [ZS.out, hO]; try rfl
  have OO : Hid (O.all (·.oneCell') = true) := by show _ = _; rw [hO]; simp [Value.oneCell']
  have HW0 := Lib.hid hW0
  have HSZ := Lib.hid hsz
  have cc : W0.cell? ⟨w.heap.size, 0, none⟩ = some (.bool true) := (cell_row G0 0).trans A0.out
  have ok0 : okN n = false := by unfold okN; rw [hlf]; rw [if_pos rfl]; exact decide_eq_false (fun h => hc h.1)
  have FIN : Hid (AsP w n (.returned (.tuple #[.agg O, .bool false])) (W1.setRow (w.heap.size + 1) O)) := by
    refine ⟨O, by rw [ok0], ⟨.slice none 0 0, by rw [hO]; unfold asN; rw [hlf], ?_⟩, b2.trans (below_row _ _ (by omega))⟩
    unfold asN
    rw [ok0]
    exact ps_nil _
  have GB := Lib.hid g1
  have GC := Lib.hid g2
  have GA := Lib.hid g0
  have GF := Lib.hid (setRow_heap W1 (w.heap.size + 1) _ O 32 _ g1)
  clear hW0 hW1 b0 b1 b2 hsz G0 G1 g0 g1 g2 al h1 h2 h3 h4 h5 hO e ok0 NR
  have f1 : ((n.vs.length : Int) != (n.ks.length : Int)) = true := by simp; omega
  have f2 : (n.vs.length != n.ks.length) = true := by simp; omega
  clear hc
  go_enter Try.func9, Try.ntmps9
  go_upto_region 1 with (fail)
  rw [← HW0.out]
  go_upto_region 2 with (first
    | (refine wpList_build1 rfl 32 0 (.tmp 8) rfl (u := .bool true) rfl (BU.out _) ?_)
    | (refine wpList_store_row rfl 32 (.tmp 4) (.tmp 9) rfl W0.heap.size O rfl rfl 32 Z GN.out IO.out SO.out OO.out ?_))
  rw [RW.out]
  try simp only [Act.put]
  rw [HSZ.out]
  clear cc hz BU GN RW
  have cc0 := (cell_row GA.out 0).trans A0.out
  have cc1 := (cell_row GA.out 1).trans A1.out
  have cc2 := (cell_row GA.out 2).trans A2.out
  have cc3 := (cell_row GA.out 3).trans A3.out
  go_upto_region 3 with (fail)
  go_wp2_with (first
    | (refine wpList_load_row rfl 32 (.tmp 4) rfl (w.heap.size + 2) rfl 32 O (0, 0) _ GC.out Try.underlying32 rfl IO.out ?_)
    | (refine wpList_store_row rfl 32 (.tmp 2) (.tmp 47) rfl (w.heap.size + 1) O rfl rfl 32 Z GB.out IO.out SO.out OO.out ?_))
  exact bodyPost_ret (v := .tuple #[.agg O, .bool false]) (results_cell_tmp Try.results9 _ _ (w.heap.size + 1) 32 O (0, 0) _ rfl GF.out Try.underlying32 rfl IO.out) rfl FIN.out
set_option maxRecDepth 100000 in
set_option maxHeartbeats 16000000 in
theorem as_l2 (A : Array Value) (n : NV) (w : World) (hv : ND w (.agg A) n) (hlf : n.leaf = true) (hc : n.vs.length = n.ks.length) (hd : 0 < n.qs.length) : Calls Try.prog 9 #[.agg A] w (AsP w n) := by
  have hz := z32
  obtain ⟨Z, hZ⟩ : ∃ Z : Array Value, Z = #[.bool false, .slice none 0 0] := ⟨_, rfl⟩
  rw [← hZ] at hz
  have ZS : Hid (Z = #[.bool false, .slice none 0 0]) := hZ
  clear hZ
  have NR := Lib.hid hv
  obtain ⟨K, V, Q, e, h1, h2, h3, h4, h5⟩ := hv
  obtain ⟨x1, c1, rfl⟩ := h1.len
  obtain ⟨x2, c2, rfl⟩ := h2.len
  obtain ⟨x3, c3, rfl⟩ := h3.len
  injection e with e
  have A0 : Hid (A[0]? = some (.bool true)) := by show _ = _; rw [e, hlf]; rfl
  have A1 : Hid (A[1]? = some (.slice x1 n.ks.length c1)) := by show _ = _; rw [e]; rfl
  have A2 : Hid (A[2]? = some (.slice x2 n.vs.length c2)) := by show _ = _; rw [e]; rfl
  have A3 : Hid (A[3]? = some (.slice x3 n.qs.length c3)) := by show _ = _; rw [e]; rfl
  obtain ⟨W0, hW0⟩ : ∃ W0, W0 = (w.alloc (.cells A 26)).alloc (.cells Z 32) := ⟨_, rfl⟩
  have b0 : Below w.heap.size w (w.alloc (.cells A 26)) := (Below.refl _ _).alloc (Nat.le_refl _) _
  have b1 : Below w.heap.size w W0 := by rw [hW0]; exact b0.alloc (by simp) _
  have hsz : W0.heap.size = w.heap.size + 2 := by rw [hW0]; simp
  have G0 : W0.heap[w.heap.size]? = some (.cells A 26 (0, 0)) := by rw [hW0, Below.heap_alloc _ _ _ (by simp)]; exact heap_alloc_new w _
  have G1 : W0.heap[w.heap.size + 1]? = some (.cells Z 32 (0, 0)) := by
    rw [hW0]
    have := heap_alloc_new (w.alloc (.cells A 26)) (.cells Z 32)
    simpa using this
  obtain ⟨O, hO⟩ : ∃ O : Array Value, O = #[.bool true, .slice none 0 0] := ⟨_, rfl⟩
  have BU : Hid (∀ W, (Instr.build 32 #[(0, .bool true)]).run Try.prog W = .ok (.agg O) W) := by show ∀ _, _; rw [hO]; exact b32 true
  obtain ⟨W1, hW1⟩ : ∃ W1, W1 = W0.alloc (.cells O 32) := ⟨_, rfl⟩
  have al : Below W0.heap.size W0 W1 := by rw [hW1]; exact (Below.refl _ _).alloc (Nat.le_refl _) _
  have GN := Lib.hid (heap_alloc_new W0 (.cells Z 32))
  have RW : Hid ((W0.alloc (.cells Z 32)).setRow W0.heap.size O = W1) := by show _ = _; rw [hW1]; exact alloc_setRowT W0 Z O 32 _ rfl
  have g2 : W1.heap[w.heap.size + 2]? = some (.cells O 32 (0, 0)) := by rw [hW1, ← hsz]; exact heap_alloc_new W0 _
  have g0 := (al.block _ (blk_lt G0)).trans G0
  have g1 := (al.block _ (blk_lt G1)).trans G1
  have b2 := b1.trans (al.mono b1.size)
  have IO : Hid ((Try.prog.info? 32).map (·.size) = some O.size) := by show _ = _; rw [hO]; exact i32 _ _
  have SO : Hid (Z.size = O.size) := by show _ = _; rw [ZS.out, hO]; try rfl
  have OO : Hid (O.all (·.oneCell') = true) := by show _ = _; rw [hO]; simp [Value.oneCell']
  have HW0 := Lib.hid hW0
  have HSZ := Lib.hid hsz
  have cc : W0.cell? ⟨w.heap.size, 0, none⟩ = some (.bool true) := (cell_row G0 0).trans A0.out
  have ok0 : okN n = false := by unfold okN; rw [hlf]; rw [if_pos rfl]; exact decide_eq_false (fun h => by omega)
  have FIN : Hid (AsP w n (.returned (.tuple #[.agg O, .bool false])) (W1.setRow (w.heap.size + 1) O)) := by
    refine ⟨O, by rw [ok0], ⟨.slice none 0 0, by rw [hO]; unfold asN; rw [hlf], ?_⟩, b2.trans (below_row _ _ (by omega))⟩
    unfold asN
    rw [ok0]
    exact ps_nil _
  have GB := Lib.hid g1
  have GC := Lib.hid g2
  have GA := Lib.hid g0
  have GF := Lib.hid (setRow_heap W1 (w.heap.size + 1) _ O 32 _ g1)
  clear hW0 hW1 b0 b1 b2 hsz G0 G1 g0 g1 g2 al h1 h2 h3 h4 h5 hO e ok0 NR
  have f1 : (0 : Int) < (n.qs.length : Int) := by omega
  rw [hc] at A2
  clear hc
  go_enter Try.func9, Try.ntmps9
  go_upto_region 1 with (fail)
  rw [← HW0.out]
  go_upto_region 2 with (first
    | (refine wpList_build1 rfl 32 0 (.tmp 8) rfl (u := .bool true) rfl (BU.out _) ?_)
    | (refine wpList_store_row rfl 32 (.tmp 4) (.tmp 9) rfl W0.heap.size O rfl rfl 32 Z GN.out IO.out SO.out OO.out ?_))
  rw [RW.out]
  try simp only [Act.put]
  rw [HSZ.out]
  clear cc hz BU GN RW
  have cc0 := (cell_row GA.out 0).trans A0.out
  have cc1 := (cell_row GA.out 1).trans A1.out
  have cc2 := (cell_row GA.out 2).trans A2.out
  have cc3 := (cell_row GA.out 3).trans A3.out
  go_upto_region 3 with (fail)
  go_wp2_with (first
    | (refine wpList_load_row rfl 32 (.tmp 4) rfl (w.heap.size + 2) rfl 32 O (0, 0) _ GC.out Try.underlying32 rfl IO.out ?_)
    | (refine wpList_store_row rfl 32 (.tmp 2) (.tmp 47) rfl (w.heap.size + 1) O rfl rfl 32 Z GB.out IO.out SO.out OO.out ?_))
  exact bodyPost_ret (v := .tuple #[.agg O, .bool false]) (results_cell_tmp Try.results9 _ _ (w.heap.size + 1) 32 O (0, 0) _ rfl GF.out Try.underlying32 rfl IO.out) rfl FIN.out
set_option maxRecDepth 100000 in
set_option maxHeartbeats 16000000 in
theorem as_i1 (A : Array Value) (n : NV) (w : World) (hv : ND w (.agg A) n) (hlf : n.leaf = false) (hc : n.qs.length ≠ n.ks.length) : Calls Try.prog 9 #[.agg A] w (AsP w n) := by
  have hz := z32
  obtain ⟨Z, hZ⟩ : ∃ Z : Array Value, Z = #[.bool false, .slice none 0 0] := ⟨_, rfl⟩
  rw [← hZ] at hz
  have ZS : Hid (Z = #[.bool false, .slice none 0 0]) := hZ
  clear hZ
  have NR := Lib.hid hv
  obtain ⟨K, V, Q, e, h1, h2, h3, h4, h5⟩ := hv
  obtain ⟨x1, c1, rfl⟩ := h1.len
  obtain ⟨x2, c2, rfl⟩ := h2.len
  obtain ⟨x3, c3, rfl⟩ := h3.len
  injection e with e
  have A0 : Hid (A[0]? = some (.bool false)) := by show _ = _; rw [e, hlf]; rfl
  have A1 : Hid (A[1]? = some (.slice x1 n.ks.length c1)) := by show _ = _; rw [e]; rfl
  have A2 : Hid (A[2]? = some (.slice x2 n.vs.length c2)) := by show _ = _; rw [e]; rfl
  have A3 : Hid (A[3]? = some (.slice x3 n.qs.length c3)) := by show _ = _; rw [e]; rfl
  obtain ⟨W0, hW0⟩ : ∃ W0, W0 = (w.alloc (.cells A 26)).alloc (.cells Z 32) := ⟨_, rfl⟩
  have b0 : Below w.heap.size w (w.alloc (.cells A 26)) := (Below.refl _ _).alloc (Nat.le_refl _) _
  have b1 : Below w.heap.size w W0 := by rw [hW0]; exact b0.alloc (by simp) _
  have hsz : W0.heap.size = w.heap.size + 2 := by rw [hW0]; simp
  have G0 : W0.heap[w.heap.size]? = some (.cells A 26 (0, 0)) := by rw [hW0, Below.heap_alloc _ _ _ (by simp)]; exact heap_alloc_new w _
  have G1 : W0.heap[w.heap.size + 1]? = some (.cells Z 32 (0, 0)) := by
    rw [hW0]
    have := heap_alloc_new (w.alloc (.cells A 26)) (.cells Z 32)
    simpa using this
  obtain ⟨O, hO⟩ : ∃ O : Array Value, O = #[.bool false, .slice none 0 0] := ⟨_, rfl⟩
  have BU : Hid (∀ W, (Instr.build 32 #[(0, .bool false)]).run Try.prog W = .ok (.agg O) W) := by show ∀ _, _; rw [hO]; exact b32 false
  obtain ⟨W1, hW1⟩ : ∃ W1, W1 = W0.alloc (.cells O 32) := ⟨_, rfl⟩
  have al : Below W0.heap.size W0 W1 := by rw [hW1]; exact (Below.refl _ _).alloc (Nat.le_refl _) _
  have GN := Lib.hid (heap_alloc_new W0 (.cells Z 32))
  have RW : Hid ((W0.alloc (.cells Z 32)).setRow W0.heap.size O = W1) := by show _ = _; rw [hW1]; exact alloc_setRowT W0 Z O 32 _ rfl
  have g2 : W1.heap[w.heap.size + 2]? = some (.cells O 32 (0, 0)) := by rw [hW1, ← hsz]; exact heap_alloc_new W0 _
  have g0 := (al.block _ (blk_lt G0)).trans G0
  have g1 := (al.block _ (blk_lt G1)).trans G1
  have b2 := b1.trans (al.mono b1.size)
  have IO : Hid ((Try.prog.info? 32).map (·.size) = some O.size) := by show _ = _; rw [hO]; exact i32 _ _
  have SO : Hid (Z.size = O.size) := by show _ = _; rw [ZS.out, hO]; try rfl
  have OO : Hid (O.all (·.oneCell') = true) := by show _ = _; rw [hO]; simp [Value.oneCell']
  have HW0 := Lib.hid hW0
  have HSZ := Lib.hid hsz
  have cc : W0.cell? ⟨w.heap.size, 0, none⟩ = some (.bool false) := (cell_row G0 0).trans A0.out
  have ok0 : okN n = false := by unfold okN; rw [hlf]; rw [if_neg (by decide)]; exact decide_eq_false (fun h => hc h.1)
  have FIN : Hid (AsP w n (.returned (.tuple #[.agg O, .bool false])) (W1.setRow (w.heap.size + 1) O)) := by
    refine ⟨O, by rw [ok0], ⟨.slice none 0 0, by rw [hO]; unfold asN; rw [hlf], ?_⟩, b2.trans (below_row _ _ (by omega))⟩
    unfold asN
    rw [ok0]
    exact ps_nil _
  have GB := Lib.hid g1
  have GC := Lib.hid g2
  have GA := Lib.hid g0
  have GF := Lib.hid (setRow_heap W1 (w.heap.size + 1) _ O 32 _ g1)
  clear hW0 hW1 b0 b1 b2 hsz G0 G1 g0 g1 g2 al h1 h2 h3 h4 h5 hO e ok0 NR
  have f1 : ((n.qs.length : Int) != (n.ks.length : Int)) = true := by simp; omega
  have f2 : (n.qs.length != n.ks.length) = true := by simp; omega
  clear hc
  go_enter Try.func9, Try.ntmps9
  go_upto_region 1 with (fail)
  rw [← HW0.out]
  go_upto_region 2 with (first
    | (refine wpList_build1 rfl 32 0 (.tmp 8) rfl (u := .bool false) rfl (BU.out _) ?_)
    | (refine wpList_store_row rfl 32 (.tmp 4) (.tmp 9) rfl W0.heap.size O rfl rfl 32 Z GN.out IO.out SO.out OO.out ?_))
  rw [RW.out]
  try simp only [Act.put]
  rw [HSZ.out]
  clear cc hz BU GN RW
  have cc0 := (cell_row GA.out 0).trans A0.out
  have cc1 := (cell_row GA.out 1).trans A1.out
  have cc2 := (cell_row GA.out 2).trans A2.out
  have cc3 := (cell_row GA.out 3).trans A3.out
  go_upto_region 3 with (fail)
  go_wp2_with (first
    | (refine wpList_load_row rfl 32 (.tmp 4) rfl (w.heap.size + 2) rfl 32 O (0, 0) _ GC.out Try.underlying32 rfl IO.out ?_)
    | (refine wpList_store_row rfl 32 (.tmp 2) (.tmp 47) rfl (w.heap.size + 1) O rfl rfl 32 Z GB.out IO.out SO.out OO.out ?_))
  exact bodyPost_ret (v := .tuple #[.agg O, .bool false]) (results_cell_tmp Try.results9 _ _ (w.heap.size + 1) 32 O (0, 0) _ rfl GF.out Try.underlying32 rfl IO.out) rfl FIN.out
set_option maxRecDepth 100000 in
set_option maxHeartbeats 16000000 in
theorem as_i2 (A : Array Value) (n : NV) (w : World) (hv : ND w (.agg A) n) (hlf : n.leaf = false) (hc : n.qs.length = n.ks.length) (hd : 0 < n.vs.length) : Calls Try.prog 9 #[.agg A] w (AsP w n) := by
  have hz := z32
  obtain ⟨Z, hZ⟩ : ∃ Z : Array Value, Z = #[.bool false, .slice none 0 0] := ⟨_, rfl⟩
  rw [← hZ] at hz
  have ZS : Hid (Z = #[.bool false, .slice none 0 0]) := hZ
  clear hZ
  have NR := Lib.hid hv
  obtain ⟨K, V, Q, e, h1, h2, h3, h4, h5⟩ := hv
  obtain ⟨x1, c1, rfl⟩ := h1.len
  obtain ⟨x2, c2, rfl⟩ := h2.len
  obtain ⟨x3, c3, rfl⟩ := h3.len
  injection e with e
  have A0 : Hid (A[0]? = some (.bool false)) := by show _ = _; rw [e, hlf]; rfl
  have A1 : Hid (A[1]? = some (.slice x1 n.ks.length c1)) := by show _ = _; rw [e]; rfl
  have A2 : Hid (A[2]? = some (.slice x2 n.vs.length c2)) := by show _ = _; rw [e]; rfl
  have A3 : Hid (A[3]? = some (.slice x3 n.qs.length c3)) := by show _ = _; rw [e]; rfl
  obtain ⟨W0, hW0⟩ : ∃ W0, W0 = (w.alloc (.cells A 26)).alloc (.cells Z 32) := ⟨_, rfl⟩
  have b0 : Below w.heap.size w (w.alloc (.cells A 26)) := (Below.refl _ _).alloc (Nat.le_refl _) _
  have b1 : Below w.heap.size w W0 := by rw [hW0]; exact b0.alloc (by simp) _
  have hsz : W0.heap.size = w.heap.size + 2 := by rw [hW0]; simp
  have G0 : W0.heap[w.heap.size]? = some (.cells A 26 (0, 0)) := by rw [hW0, Below.heap_alloc _ _ _ (by simp)]; exact heap_alloc_new w _
  have G1 : W0.heap[w.heap.size + 1]? = some (.cells Z 32 (0, 0)) := by
    rw [hW0]
    have := heap_alloc_new (w.alloc (.cells A 26)) (.cells Z 32)
    simpa using this
  obtain ⟨O, hO⟩ : ∃ O : Array Value, O = #[.bool false, .slice none 0 0] := ⟨_, rfl⟩
  have BU : Hid (∀ W, (Instr.build 32 #[(0, .bool false)]).run Try.prog W = .ok (.agg O) W) := by show ∀ _, _; rw [hO]; exact b32 false
  obtain ⟨W1, hW1⟩ : ∃ W1, W1 = W0.alloc (.cells O 32) := ⟨_, rfl⟩
  have al : Below W0.heap.size W0 W1 := by rw [hW1]; exact (Below.refl _ _).alloc (Nat.le_refl _) _
  have GN := Lib.hid (heap_alloc_new W0 (.cells Z 32))
  have RW : Hid ((W0.alloc (.cells Z 32)).setRow W0.heap.size O = W1) := by show _ = _; rw [hW1]; exact alloc_setRowT W0 Z O 32 _ rfl
  have g2 : W1.heap[w.heap.size + 2]? = some (.cells O 32 (0, 0)) := by rw [hW1, ← hsz]; exact heap_alloc_new W0 _
  have g0 := (al.block _ (blk_lt G0)).trans G0
  have g1 := (al.block _ (blk_lt G1)).trans G1
  have b2 := b1.trans (al.mono b1.size)
  have IO : Hid ((Try.prog.info? 32).map (·.size) = some O.size) := by show _ = _; rw [hO]; exact i32 _ _
  have SO : Hid (Z.size = O.size) := by show _ = _; rw [ZS.out, hO]; try rfl
  have OO : Hid (O.all (·.oneCell') = true) := by show _ = _; rw [hO]; simp [Value.oneCell']
  have HW0 := Lib.hid hW0
  have HSZ := Lib.hid hsz
  have cc : W0.cell? ⟨w.heap.size, 0, none⟩ = some (.bool false) := (cell_row G0 0).trans A0.out
  have ok0 : okN n = false := by unfold okN; rw [hlf]; rw [if_neg (by decide)]; exact decide_eq_false (fun h => by omega)
  have FIN : Hid (AsP w n (.returned (.tuple #[.agg O, .bool false])) (W1.setRow (w.heap.size + 1) O)) := by
    refine ⟨O, by rw [ok0], ⟨.slice none 0 0, by rw [hO]; unfold asN; rw [hlf], ?_⟩, b2.trans (below_row _ _ (by omega))⟩
    unfold asN
    rw [ok0]
    exact ps_nil _
  have GB := Lib.hid g1
  have GC := Lib.hid g2
  have GA := Lib.hid g0
  have GF := Lib.hid (setRow_heap W1 (w.heap.size + 1) _ O 32 _ g1)
  clear hW0 hW1 b0 b1 b2 hsz G0 G1 g0 g1 g2 al h1 h2 h3 h4 h5 hO e ok0 NR
  have f1 : (0 : Int) < (n.vs.length : Int) := by omega
  rw [hc] at A3
  clear hc
  go_enter Try.func9, Try.ntmps9
  go_upto_region 1 with (fail)
  rw [← HW0.out]
  go_upto_region 2 with (first
    | (refine wpList_build1 rfl 32 0 (.tmp 8) rfl (u := .bool false) rfl (BU.out _) ?_)
    | (refine wpList_store_row rfl 32 (.tmp 4) (.tmp 9) rfl W0.heap.size O rfl rfl 32 Z GN.out IO.out SO.out OO.out ?_))
  rw [RW.out]
  try simp only [Act.put]
  rw [HSZ.out]
  clear cc hz BU GN RW
  have cc0 := (cell_row GA.out 0).trans A0.out
  have cc1 := (cell_row GA.out 1).trans A1.out
  have cc2 := (cell_row GA.out 2).trans A2.out
  have cc3 := (cell_row GA.out 3).trans A3.out
  go_upto_region 3 with (fail)
  go_wp2_with (first
    | (refine wpList_load_row rfl 32 (.tmp 4) rfl (w.heap.size + 2) rfl 32 O (0, 0) _ GC.out Try.underlying32 rfl IO.out ?_)
    | (refine wpList_store_row rfl 32 (.tmp 2) (.tmp 47) rfl (w.heap.size + 1) O rfl rfl 32 Z GB.out IO.out SO.out OO.out ?_))
  exact bodyPost_ret (v := .tuple #[.agg O, .bool false]) (results_cell_tmp Try.results9 _ _ (w.heap.size + 1) 32 O (0, 0) _ rfl GF.out Try.underlying32 rfl IO.out) rfl FIN.out
set_option maxRecDepth 100000 in
set_option maxHeartbeats 16000000 in
theorem as_leaf (A : Array Value) (n : NV) (w : World) (hv : ND w (.agg A) n) (hlf : n.leaf = true) (hm : n.ks.length ≤ 100) (hc : n.vs.length = n.ks.length) (hd : n.qs.length = 0) : Calls Try.prog 9 #[.agg A] w (AsP w n) := by
  have hz := z32
  obtain ⟨Z, hZ⟩ : ∃ Z : Array Value, Z = #[.bool false, .slice none 0 0] := ⟨_, rfl⟩
  rw [← hZ] at hz
  have ZS : Hid (Z = #[.bool false, .slice none 0 0]) := hZ
  clear hZ
  have NR := Lib.hid hv
  obtain ⟨K, V, Q, e, h1, h2, h3, h4, h5⟩ := hv
  obtain ⟨x1, c1, rfl⟩ := h1.len
  obtain ⟨x2, c2, rfl⟩ := h2.len
  obtain ⟨x3, c3, rfl⟩ := h3.len
  injection e with e
  have A0 : Hid (A[0]? = some (.bool true)) := by show _ = _; rw [e, hlf]; rfl
  have A1 : Hid (A[1]? = some (.slice x1 n.ks.length c1)) := by show _ = _; rw [e]; rfl
  have A2 : Hid (A[2]? = some (.slice x2 n.vs.length c2)) := by show _ = _; rw [e]; rfl
  have A3 : Hid (A[3]? = some (.slice x3 n.qs.length c3)) := by show _ = _; rw [e]; rfl
  obtain ⟨W0, hW0⟩ : ∃ W0, W0 = (w.alloc (.cells A 26)).alloc (.cells Z 32) := ⟨_, rfl⟩
  have b0 : Below w.heap.size w (w.alloc (.cells A 26)) := (Below.refl _ _).alloc (Nat.le_refl _) _
  have b1 : Below w.heap.size w W0 := by rw [hW0]; exact b0.alloc (by simp) _
  have hsz : W0.heap.size = w.heap.size + 2 := by rw [hW0]; simp
  have G0 : W0.heap[w.heap.size]? = some (.cells A 26 (0, 0)) := by rw [hW0, Below.heap_alloc _ _ _ (by simp)]; exact heap_alloc_new w _
  have G1 : W0.heap[w.heap.size + 1]? = some (.cells Z 32 (0, 0)) := by
    rw [hW0]
    have := heap_alloc_new (w.alloc (.cells A 26)) (.cells Z 32)
    simpa using this
  obtain ⟨O, hO⟩ : ∃ O : Array Value, O = #[.bool true, .slice none 0 0] := ⟨_, rfl⟩
  have BU : Hid (∀ W, (Instr.build 32 #[(0, .bool true)]).run Try.prog W = .ok (.agg O) W) := by show ∀ _, _; rw [hO]; exact b32 true
  obtain ⟨W1, hW1⟩ : ∃ W1, W1 = W0.alloc (.cells O 32) := ⟨_, rfl⟩
  have al : Below W0.heap.size W0 W1 := by rw [hW1]; exact (Below.refl _ _).alloc (Nat.le_refl _) _
  have GN := Lib.hid (heap_alloc_new W0 (.cells Z 32))
  have RW : Hid ((W0.alloc (.cells Z 32)).setRow W0.heap.size O = W1) := by show _ = _; rw [hW1]; exact alloc_setRowT W0 Z O 32 _ rfl
  have g2 : W1.heap[w.heap.size + 2]? = some (.cells O 32 (0, 0)) := by rw [hW1, ← hsz]; exact heap_alloc_new W0 _
  have g0 := (al.block _ (blk_lt G0)).trans G0
  have g1 := (al.block _ (blk_lt G1)).trans G1
  have b2 := b1.trans (al.mono b1.size)
  have IO : Hid ((Try.prog.info? 32).map (·.size) = some O.size) := by show _ = _; rw [hO]; exact i32 _ _
  have SO : Hid (Z.size = O.size) := by show _ = _; rw [ZS.out, hO]; try rfl
  have OO : Hid (O.all (·.oneCell') = true) := by show _ = _; rw [hO]; simp [Value.oneCell']
  have HW0 := Lib.hid hW0
  have HSZ := Lib.hid hsz
  have cc : W0.cell? ⟨w.heap.size, 0, none⟩ = some (.bool true) := (cell_row G0 0).trans A0.out
  have ok1 : okN n = true := by unfold okN; rw [hlf]; rw [if_pos rfl]; exact decide_eq_true ⟨hc, hd⟩
  have START : Hid (AsR w A true (parts n) 0 W1) := by
    refine ⟨[], none, 0, by simp, g0, by rw [← ZS.out]; exact g1, by rw [← hO]; exact g2, World.ownsRow_nil _ _ _ _, fun r hr => (by cases hr), b2⟩
  have FIN : Hid (∀ (wr : World) (O : Array Value), DM (wr.setRow (w.heap.size + 1) O) (.agg O) ⟨true, parts n⟩ → Below w.heap.size w (wr.setRow (w.heap.size + 1) O) → AsP w n (.returned (.tuple #[.agg O, .bool true])) (wr.setRow (w.heap.size + 1) O)) := fun wr O a b => by
    refine ⟨O, by rw [ok1], ?_, b⟩
    unfold asN
    rw [ok1, hlf]
    exact a
  have PL := Lib.hid (parts_len n)
  have PA := Lib.hid (parts_at n)
  have KA : Hid (∀ i, i < n.ks.length → ∃ b o, x1 = some ⟨b, o, none⟩ ∧ b < w.heap.size ∧ w.cell? ⟨b, o + i, none⟩ = some (.int .u64 (n.ks.getD i 0)) ∧ 0 ≤ n.ks.getD i 0 ∧ n.ks.getD i 0 ≤ 18446744073709551615) := fun i hi => by
    obtain ⟨b, o, q1, q2, q3⟩ := h1.at i hi
    have : n.ks.getD i 0 ∈ n.ks := by simp only [List.getD, List.getElem?_eq_getElem hi, Option.getD_some]; exact List.getElem_mem hi
    exact ⟨b, o, q1, q2, q3, h1.1 _ this⟩
  have VA : Hid (∀ i, i < n.ks.length → ∃ b o, x2 = some ⟨b, o, none⟩ ∧ Sees w (.slice (some ⟨b, o + i * 44, none⟩) 44 44) (bsN n i) ∧ (bsN n i).length = 44) := fun i hi => by
    have hi2 : i < n.vs.length := by omega
    obtain ⟨_, _, x', c', e', q4⟩ := h2
    injection e' with e1 _ _
    subst e1
    have hg : n.vs[i]? = some n.vs[i] := List.getElem?_eq_getElem hi2
    obtain ⟨b, o, q5, q6, q7⟩ := q4 i _ hg
    have hbs : bsN n i = n.vs[i] := by unfold bsN; rw [hlf, if_pos rfl]; simp [List.getD, hi2]
    have hv := h4 _ (List.getElem_mem hi2)
    exact ⟨b, o, q5, by rw [hbs]; exact sees_rng q7 hv.1 hv.2 (by decide) (by decide), by rw [hbs]; exact hv.2⟩
  have GA := Lib.hid g0
  clear hW0 hW1 b0 b1 b2 hsz G0 G1 g0 g1 g2 al h1 h2 h3 h4 h5 hO e ok1 NR
  rw [hc] at A2
  rw [hd] at A3
  have hL : (n.ks.length : Int) ≤ 100 := by omega
  clear hc hd
  have HF := hlf
  clear hlf HF
  generalize parts n = l at *
  generalize n.ks.length = L at *
  go_enter Try.func9, Try.ntmps9
  go_upto_region 1 with (fail)
  rw [← HW0.out]
  go_upto_region 2 with (first
    | (refine wpList_build1 rfl 32 0 (.tmp 8) rfl (u := .bool true) rfl (BU.out _) ?_)
    | (refine wpList_store_row rfl 32 (.tmp 4) (.tmp 9) rfl W0.heap.size O rfl rfl 32 Z GN.out IO.out SO.out OO.out ?_))
  rw [RW.out]
  try simp only [Act.put]
  rw [HSZ.out]
  clear cc hz BU GN RW
  have cc0 := (cell_row GA.out 0).trans A0.out
  have cc1 := (cell_row GA.out 1).trans A1.out
  have cc2 := (cell_row GA.out 2).trans A2.out
  have cc3 := (cell_row GA.out 3).trans A3.out
  go_upto_region 4 with (fail)
  go_wp2_with fail
  clear cc0 cc1 cc2 cc3
  refine (show Code.wp _ _ _ _ _ from ?_)
  go_loopw [5] (fun v5 wr => ∃ i : Nat, i ≤ L ∧ v5 = .int .i64 (i : Int) ∧ AsR w A true l i wr) (fun v5 _ => L - (intOf v5).toNat)
  case atStart => exact ⟨0, by omega, rfl, START.out⟩
  case round =>
    obtain ⟨i, hi, rfl, hrel⟩ := hrel
    have HR := Lib.hid hrel
    obtain ⟨rows, x, c, r1, g0, g1, g2, ho, hr, hb⟩ := hrel
    have HRW := Lib.hid hr
    have HO := Lib.hid ho
    have HB := Lib.hid hb
    have R1 := Lib.hid r1
    have G0 := Lib.hid g0
    have G1 := Lib.hid g1
    have G2 := Lib.hid g2
    have cc1 := (cell_row g0 1).trans A1.out
    clear r1 g0 g1 g2 ho hr hb
    by_cases hlt : i < L
    · have hii : (i : Int) < (L : Int) := by omega
      have HLT := Lib.hid hlt
      obtain ⟨bk, ok, rfl, hlb, hck, hk0, hk1⟩ := KA.out i hlt
      obtain ⟨key, hkey⟩ : ∃ key, key = n.ks.getD i 0 := ⟨_, rfl⟩
      rw [← hkey] at hck hk0 hk1
      have PAI := PA.out i hlt
      rw [← hkey] at PAI
      have PI := Lib.hid PAI
      have CK := Lib.hid ((HB.out.cell (p := ⟨bk, ok + i, none⟩) hlb).trans hck)
      have K0 : Hid (0 ≤ key ∧ key ≤ 18446744073709551615) := ⟨hk0, hk1⟩
      clear hlt hlb hck hk0 hk1 PAI hkey
      obtain ⟨bv, ov, rfl, hsv, hbl⟩ := VA.out i HLT.out
      obtain ⟨bs, hbs⟩ : ∃ bs, bs = bsN n i := ⟨_, rfl⟩
      rw [← hbs] at hsv hbl
      have PI := PI.out
      rw [← hbs] at PI
      have PI := Lib.hid PI
      have SV := Lib.hid (hsv.below HB.out)
      have BL := Lib.hid hbl
      clear hsv hbl hbs
      have hz6 := z61
      obtain ⟨Zp, hZp⟩ : ∃ Zp : Array Value, Zp = #[.int .u64 0, .slice none 0 0] := ⟨_, rfl⟩
      rw [← hZp] at hz6
      obtain ⟨P, hP⟩ : ∃ P : Array Value, P = #[.int .u64 key, .slice none 0 0] := ⟨_, rfl⟩
      have BP : Hid (∀ W, (Instr.build 61 #[(0, .int .u64 key)]).run Try.prog W = .ok (.agg P) W) := by show ∀ _, _; rw [hP]; exact b61 key
      have IP : Hid ((Try.prog.info? 61).map (·.size) = some P.size) := by show _ = _; rw [hP]; exact i61 _ _
      have SP : Hid (Zp.size = P.size) := by show _ = _; rw [hZp, hP]; rfl
      have OP : Hid (P.all (·.oneCell') = true) := by show _ = _; rw [hP]; simp [Value.oneCell']
      have HP := Lib.hid hP
      obtain ⟨Wp, hWp⟩ : ∃ Wp, Wp = wr.alloc (.cells P 61) := ⟨_, rfl⟩
      have al : Below wr.heap.size wr Wp := by rw [hWp]; exact (Below.refl _ _).alloc (Nat.le_refl _) _
      have GN := Lib.hid (heap_alloc_new wr (.cells Zp 61))
      have RW : Hid ((wr.alloc (.cells Zp 61)).setRow wr.heap.size P = Wp) := by show _ = _; rw [hWp]; exact alloc_setRowT wr Zp P 61 _ rfl
      have GP : Hid (Wp.heap[wr.heap.size]? = some (.cells P 61 (0, 0))) := by show _ = _; rw [hWp]; exact heap_alloc_new wr _
      have AL := Lib.hid al
      clear hZp hP hWp al
      go_upto_region 7 with (fail)
      have ck := CK.out
      go_upto_region 8 with (first
        | (refine wpList_build1 rfl 61 0 (.tmp 59) rfl (u := .int .u64 key) rfl (BP.out _) ?_)
        | (refine wpList_store_row rfl 61 (.tmp 6) (.tmp 60) rfl wr.heap.size P rfl rfl 61 Zp GN.out IP.out SP.out OP.out ?_))
      rw [RW.out]
      try simp only [Act.put]
      clear ck cc1 hz6 BP GN RW CK
      have GAp := Lib.hid ((AL.out.block _ (blk_lt G0.out)).trans G0.out)
      have cc0 := (cell_row GAp.out 0).trans A0.out
      go_upto_region 9 with (fail)
      clear cc0
      have P1 : Hid (P[1]? = some (.slice none 0 0)) := by show _ = _; rw [HP.out]; rfl
      have P2 : Hid (∀ v : Value, P.setIfInBounds 1 v = #[.int .u64 key, v]) := by show ∀ _, _; rw [HP.out]; intro v; rfl
      have SV := Lib.hid (SV.out.below AL.out)
      have HII := Lib.hid hii
      have GAw := G0
      refine wp_region_held_drew (S := fun W => Below wr.heap.size wr W ∧ W.heap[w.heap.size]? = some (.cells A 26 (0, 0))) (by kernel_rfl) (⟨AL.out.drew, GAp.out⟩) (fun hS => ?_)
      have hb0 : Below Wp.heap.size Wp Wp.drew := (Below.refl _ _).drew
      have qGP := (hb0.block _ (blk_lt GP.out)).trans GP.out
      have qSV := SV.out.below hb0
      clear hb0 GP SV
      generalize Wp.drew = Wvs at hS qGP qSV ⊢
      have GP := Lib.hid qGP
      have SV := Lib.hid qSV
      clear qGP qSV
      refine' wpAnyH_take (i := 0) ?h1x0v ?hsx0v ?hfx0v ?hrx0v ?hQx0v (Or.inl ⟨?hwx0v, ?hyx0v⟩) hS ?restx0v
      case h1x0v => (simp only [List.getElem?_toArray, List.getElem?_cons_zero]; rfl)
      case hsx0v | hfx0v | hrx0v => kernel_rfl
      case hQx0v => exact fun _ _ _ h => h
      case hwx0v => rfl
      case hyx0v =>
        intro W hW
        go_simp
        try with_reducible rfl
      simp only [Act.put, List.setIfInBounds_toArray, List.set_cons_succ, List.set_cons_zero]
      refine' wpAnyH_take (i := 2) ?h1x2v ?hsx2v ?hfx2v ?hrx2v ?hQx2v (Or.inl ⟨?hwx2v, ?hyx2v⟩) hS ?restx2v
      case h1x2v => (simp only [List.getElem?_toArray, List.getElem?_cons_succ, List.getElem?_cons_zero]; rfl)
      case hsx2v | hfx2v | hrx2v => kernel_rfl
      case hQx2v => exact fun _ _ _ h => h
      case hwx2v => rfl
      case hyx2v =>
        intro W hW
        go_simp
        try with_reducible rfl
      simp only [Act.put, List.setIfInBounds_toArray, List.set_cons_succ, List.set_cons_zero]
      refine' wpAnyH_take (i := 4) ?h1x4v ?hsx4v ?hfx4v ?hrx4v ?hQx4v (Or.inl ⟨?hwx4v, ?hyx4v⟩) hS ?restx4v
      case h1x4v => (simp only [List.getElem?_toArray, List.getElem?_cons_succ, List.getElem?_cons_zero]; rfl)
      case hsx4v | hfx4v | hrx4v => kernel_rfl
      case hQx4v => exact fun _ _ _ h => h
      case hwx4v => rfl
      case hyx4v =>
        intro W hW
        go_simp
        try with_reducible rfl
      simp only [Act.put, List.setIfInBounds_toArray, List.set_cons_succ, List.set_cons_zero]
      refine' wpAnyH_take (i := 3) ?h1x3v ?hsx3v ?hfx3v ?hrx3v ?hQx3v (Or.inl ⟨?hwx3v, ?hyx3v⟩) hS ?restx3v
      case h1x3v => (simp only [List.getElem?_toArray, List.getElem?_cons_succ, List.getElem?_cons_zero]; rfl)
      case hsx3v | hfx3v | hrx3v => kernel_rfl
      case hQx3v => exact fun _ _ _ h => h
      case hwx3v => rfl
      case hyx3v =>
        intro W hW
        have cx := (cell_row hW.2 2).trans A2.out
        go_simp
        try with_reducible rfl
      simp only [Act.put, List.setIfInBounds_toArray, List.set_cons_succ, List.set_cons_zero]
      refine' wpAnyH_take (i := 5) ?h1x5v ?hsx5v ?hfx5v ?hrx5v ?hQx5v (Or.inl ⟨?hwx5v, ?hyx5v⟩) hS ?restx5v
      case h1x5v => (simp only [List.getElem?_toArray, List.getElem?_cons_succ, List.getElem?_cons_zero]; rfl)
      case hsx5v | hfx5v | hrx5v => kernel_rfl
      case hQx5v => exact fun _ _ _ h => h
      case hwx5v => rfl
      case hyx5v =>
        intro W hW
        have hx := HII.out
        go_simp
        try with_reducible rfl
      simp only [Act.put, List.setIfInBounds_toArray, List.set_cons_succ, List.set_cons_zero]
      refine' wpAnyH_take (i := 6) ?h1x6v ?hsx6v ?hfx6v ?hrx6v ?hQx6v (Or.inl ⟨?hwx6v, ?hyx6v⟩) hS ?restx6v
      case h1x6v => (simp only [List.getElem?_toArray, List.getElem?_cons_succ, List.getElem?_cons_zero]; rfl)
      case hsx6v | hfx6v | hrx6v => kernel_rfl
      case hQx6v => exact fun _ _ _ h => h
      case hwx6v => rfl
      case hyx6v =>
        intro W hW
        go_simp
        try with_reducible rfl
      simp only [Act.put, List.setIfInBounds_toArray, List.set_cons_succ, List.set_cons_zero]
      refine wpAnyH_ready (rs := [1]) (by kernel_rfl) (by simp) ?_
      refine' (AllReadyH.cons ?hoc1v (fun K hK => ?stc1v) AllReadyH.nil)
      case hoc1v => (simp only [List.getElem?_toArray, List.getElem?_cons_succ, List.getElem?_cons_zero]; rfl)
      have ck := (cell_row GP.out 1).trans P1.out
      go_simp
      refine hK.out _ _ hS (fun hHeld => ?_)
      clear hK K
      try simp only [Act.put, List.setIfInBounds_toArray, List.set_cons_succ, List.set_cons_zero]
      clear hS
      have hS := hHeld
      clear hHeld
      refine wpAnyH_ready (rs := [7]) (by kernel_rfl) (by simp) ?_
      refine' (AllReadyH.cons ?hoc7vx1 (fun K hK => ?stc7vx1) AllReadyH.nil)
      case hoc7vx1 => (simp only [List.getElem?_toArray, List.getElem?_cons_succ, List.getElem?_cons_zero]; rfl)
      obtain ⟨y, d, Wvx1x7, hrun, hown, hgr, hbel⟩ := oc.app (oc.own_nil Wvs Wvs.heap.size) SV.out (by rw [BL.out]; decide) (Nat.le_refl _)
      simp only [List.length_nil, Nat.zero_add, List.nil_append] at hrun hown
      refine step_apq rfl (.tmp 64) (.tmp 69) rfl rfl rfl rfl hrun ?_
      have gpl := blk_lt GP.out
      have hbw : Below Wvs.heap.size Wvs Wvx1x7 := hbel
      have OWN := Lib.hid (own_le hown gpl)
      have hS2 := hS.1.trans (hbw.mono (by have := hS.1.size; omega))
      have hS3 := (hbw.block _ (by have := blk_lt hS.2; have := blk_lt GAw.out; have := blk_lt GP.out; omega)).trans hS.2
      have qGP := (hbw.block _ (by have := blk_lt GP.out; omega)).trans GP.out
      refine hK.out _ _ ⟨hS2, hS3⟩ (fun hHeld => ?_)
      clear hK K hrun hown hgr hbel hbw hS2 hS3 gpl
      try simp only [Act.put, List.setIfInBounds_toArray, List.set_cons_succ, List.set_cons_zero]
      clear hS GP
      have hS := hHeld
      clear hHeld
      have GP := Lib.hid qGP
      clear qGP
      refine' wpAnyH_take (i := 8) ?h1x8vx1x7 ?hsx8vx1x7 ?hfx8vx1x7 ?hrx8vx1x7 ?hQx8vx1x7 (Or.inl ⟨?hwx8vx1x7, ?hyx8vx1x7⟩) hS ?restx8vx1x7
      case h1x8vx1x7 => (simp only [List.getElem?_toArray, List.getElem?_cons_succ, List.getElem?_cons_zero]; rfl)
      case hsx8vx1x7 | hfx8vx1x7 | hrx8vx1x7 => kernel_rfl
      case hQx8vx1x7 => exact fun _ _ _ h => h
      case hwx8vx1x7 => rfl
      case hyx8vx1x7 =>
        intro W hW
        go_simp
        try with_reducible rfl
      simp only [Act.put, List.setIfInBounds_toArray, List.set_cons_succ, List.set_cons_zero]
      refine wpAnyH_ready (rs := [9]) (by kernel_rfl) (by simp) ?_
      refine' (AllReadyH.cons ?hoc9vx1x7 (fun K hK => ?stc9vx1x7) AllReadyH.nil)
      case hoc9vx1x7 => (simp only [List.getElem?_toArray, List.getElem?_cons_succ, List.getElem?_cons_zero]; rfl)
      have ck := (cell_row GP.out 1).trans P1.out
      have fz := oc.frozen_block GP.out 1
      have qc := heap_setCell_same Wvx1x7 wr.heap.size 1 P 61 (.slice y bs.length d) GP.out
      have hgs : Wvx1x7.grownBy (Wvx1x7.setCell ⟨wr.heap.size, 1, none⟩ (.slice y bs.length d)) (some wr.heap.size) := by
        rw [setCell_eq_setRow _ _ _ _ _ _ _ GP.out]
        exact oc.grownBy_setRow _ _ _
      have hS2 := hS.1.setCell (p := ⟨wr.heap.size, 1, none⟩) (Nat.le_refl _) (.slice y bs.length d)
      have hS3 := (hgs.block _ (blk_lt hS.2) (by have := blk_lt GAw.out; simp; omega)).trans hS.2
      have OWN2 := Lib.hid (OWN.out.grown hgs (by
        cases hn : (Value.slice y bs.length d).ownBlock with
        | none => exact .inl rfl
        | some b => exact .inr (fun e => by injection e with e; have := (OWN.out.2.lt b hn).1; omega)))
      go_simp
      refine hK.out _ _ ⟨hS2, hS3⟩ (fun hHeld => ?_)
      clear hK K ck fz hgs hS2 hS3 hS OWN GP
      try simp only [Act.put]
      generalize Wvx1x7.setCell ⟨wr.heap.size, 1, none⟩ (.slice y bs.length d) = Wf at *
      have hS := hHeld
      clear hHeld
      rw [P2.out] at qc
      have GP := Lib.hid qc
      clear qc
      refine wpAnyH_done (by kernel_rfl) ?_ _
      have h3 := hS.1
      clear hS
      obtain ⟨x', c', W5, hrun, hg5, hstep⟩ := AsR.step R1.out G0.out G1.out G2.out HO.out HRW.out HB.out h3 (own_le OWN2.out (by omega)) K0.out PI.out (by omega)
      have HRUN := Lib.hid hrun
      have HSTEP := Lib.hid hstep
      have cg := (cell_row ((h3.block _ (blk_lt G2.out)).trans G2.out) 1).trans (show (#[Value.bool true, .slice x i c] : Array Value)[1]? = some (.slice x i c) from rfl)
      have c5 := (cell_row hg5 1).trans (show (#[Value.bool true, .slice x i c] : Array Value)[1]? = some (.slice x i c) from rfl)
      have f5 := oc.frozen_block hg5 1
      have BS3 := Lib.hid (bs30 key y bs.length d Wf)
      clear h3 hrun hstep hg5
      go_upto_region 11 with (fail)
      go_wp2_with (first
        | (refine wpList_load_row rfl 61 (.tmp 6) rfl wr.heap.size rfl 61 #[.int .u64 key, .slice y bs.length d] (0, 0) _ GP.out Try.underlying61 rfl (i61 _ _) ?_; refine wpList_bs rfl 30 1 (.tmp 90) rfl (u := .agg #[.int .u64 key, .slice y bs.length d]) rfl BS3.out ?_; refine wpList_appK 30 rfl (.tmp 89) (.tmp 91) rfl rfl rfl rfl HRUN.out ?_))
      go_roundw
      case rel => exact ⟨i + 1, by omega, by go_num, HSTEP.out⟩
      case measure => simp [intOf]; omega
    · have hge : ¬ (i : Int) < (L : Int) := by omega
      obtain rfl : i = L := by omega
      obtain ⟨Q, q1, q2, q3, q4, q5, q6⟩ := HR.out.fin (by rw [PL.out]) (by omega)
      have Q1 : Hid ((Try.prog.info? 32).map (·.size) = some Q.size) := by show _ = _; rw [q1]; exact info32
      have Q2 := Lib.hid q2
      have Q3 := Lib.hid q3
      have Q4 := Lib.hid q4
      have Q5 : Hid ((#[.bool false, .slice none 0 0] : Array Value).size = Q.size) := by show _ = _; rw [q1]; rfl
      have Q6 := Lib.hid (FIN.out _ _ q5 q6)
      have Q7 := Lib.hid (setRow_heap wr (w.heap.size + 1) _ Q 32 _ q4)
      clear q1 q2 q3 q4 q5 q6
      go_upto_region 12 with (fail)
      clear cc1
      go_wp2_with (first
        | (refine wpList_load_row rfl 32 (.tmp 4) rfl (w.heap.size + 2) rfl 32 Q (0, 0) _ Q3.out Try.underlying32 rfl Q1.out ?_)
        | (refine wpList_store_row rfl 32 (.tmp 2) (.tmp 94) rfl (w.heap.size + 1) Q rfl rfl 32 _ Q4.out Q1.out Q5.out Q2.out ?_))
      exact bodyPost_ret (v := .tuple #[.agg Q, .bool true]) (results_cell_tmp Try.results9 _ _ (w.heap.size + 1) 32 Q (0, 0) _ rfl Q7.out Try.underlying32 rfl Q1.out) rfl Q6.out
set_option maxRecDepth 100000 in
set_option maxHeartbeats 16000000 in
theorem as_inner (A : Array Value) (n : NV) (w : World) (hv : ND w (.agg A) n) (hlf : n.leaf = false) (hm : n.ks.length ≤ 100) (hf : ∀ p ∈ n.qs, 0 ≤ p.1 ∧ p.1 ≤ 4294967295) (hc : n.qs.length = n.ks.length) (hd : n.vs.length = 0) : Calls Try.prog 9 #[.agg A] w (AsP w n) := by
  have hz := z32
  obtain ⟨Z, hZ⟩ : ∃ Z : Array Value, Z = #[.bool false, .slice none 0 0] := ⟨_, rfl⟩
  rw [← hZ] at hz
  have ZS : Hid (Z = #[.bool false, .slice none 0 0]) := hZ
  clear hZ
  have NR := Lib.hid hv
  obtain ⟨K, V, Q, e, h1, h2, h3, h4, h5⟩ := hv
  obtain ⟨x1, c1, rfl⟩ := h1.len
  obtain ⟨x2, c2, rfl⟩ := h2.len
  obtain ⟨x3, c3, rfl⟩ := h3.len
  injection e with e
  have A0 : Hid (A[0]? = some (.bool false)) := by show _ = _; rw [e, hlf]; rfl
  have A1 : Hid (A[1]? = some (.slice x1 n.ks.length c1)) := by show _ = _; rw [e]; rfl
  have A2 : Hid (A[2]? = some (.slice x2 n.vs.length c2)) := by show _ = _; rw [e]; rfl
  have A3 : Hid (A[3]? = some (.slice x3 n.qs.length c3)) := by show _ = _; rw [e]; rfl
  obtain ⟨W0, hW0⟩ : ∃ W0, W0 = (w.alloc (.cells A 26)).alloc (.cells Z 32) := ⟨_, rfl⟩
  have b0 : Below w.heap.size w (w.alloc (.cells A 26)) := (Below.refl _ _).alloc (Nat.le_refl _) _
  have b1 : Below w.heap.size w W0 := by rw [hW0]; exact b0.alloc (by simp) _
  have hsz : W0.heap.size = w.heap.size + 2 := by rw [hW0]; simp
  have G0 : W0.heap[w.heap.size]? = some (.cells A 26 (0, 0)) := by rw [hW0, Below.heap_alloc _ _ _ (by simp)]; exact heap_alloc_new w _
  have G1 : W0.heap[w.heap.size + 1]? = some (.cells Z 32 (0, 0)) := by
    rw [hW0]
    have := heap_alloc_new (w.alloc (.cells A 26)) (.cells Z 32)
    simpa using this
  obtain ⟨O, hO⟩ : ∃ O : Array Value, O = #[.bool false, .slice none 0 0] := ⟨_, rfl⟩
  have BU : Hid (∀ W, (Instr.build 32 #[(0, .bool false)]).run Try.prog W = .ok (.agg O) W) := by show ∀ _, _; rw [hO]; exact b32 false
  obtain ⟨W1, hW1⟩ : ∃ W1, W1 = W0.alloc (.cells O 32) := ⟨_, rfl⟩
  have al : Below W0.heap.size W0 W1 := by rw [hW1]; exact (Below.refl _ _).alloc (Nat.le_refl _) _
  have GN := Lib.hid (heap_alloc_new W0 (.cells Z 32))
  have RW : Hid ((W0.alloc (.cells Z 32)).setRow W0.heap.size O = W1) := by show _ = _; rw [hW1]; exact alloc_setRowT W0 Z O 32 _ rfl
  have g2 : W1.heap[w.heap.size + 2]? = some (.cells O 32 (0, 0)) := by rw [hW1, ← hsz]; exact heap_alloc_new W0 _
  have g0 := (al.block _ (blk_lt G0)).trans G0
  have g1 := (al.block _ (blk_lt G1)).trans G1
  have b2 := b1.trans (al.mono b1.size)
  have IO : Hid ((Try.prog.info? 32).map (·.size) = some O.size) := by show _ = _; rw [hO]; exact i32 _ _
  have SO : Hid (Z.size = O.size) := by show _ = _; rw [ZS.out, hO]; try rfl
  have OO : Hid (O.all (·.oneCell') = true) := by show _ = _; rw [hO]; simp [Value.oneCell']
  have HW0 := Lib.hid hW0
  have HSZ := Lib.hid hsz
  have cc : W0.cell? ⟨w.heap.size, 0, none⟩ = some (.bool false) := (cell_row G0 0).trans A0.out
  have ok1 : okN n = true := by unfold okN; rw [hlf]; rw [if_neg (by decide)]; exact decide_eq_true ⟨hc, hd⟩
  have START : Hid (AsR w A false (parts n) 0 W1) := by
    refine ⟨[], none, 0, by simp, g0, by rw [← ZS.out]; exact g1, by rw [← hO]; exact g2, World.ownsRow_nil _ _ _ _, fun r hr => (by cases hr), b2⟩
  have FIN : Hid (∀ (wr : World) (O : Array Value), DM (wr.setRow (w.heap.size + 1) O) (.agg O) ⟨false, parts n⟩ → Below w.heap.size w (wr.setRow (w.heap.size + 1) O) → AsP w n (.returned (.tuple #[.agg O, .bool true])) (wr.setRow (w.heap.size + 1) O)) := fun wr O a b => by
    refine ⟨O, by rw [ok1], ?_, b⟩
    unfold asN
    rw [ok1, hlf]
    exact a
  have PL := Lib.hid (parts_len n)
  have PA := Lib.hid (parts_at n)
  have KA : Hid (∀ i, i < n.ks.length → ∃ b o, x1 = some ⟨b, o, none⟩ ∧ b < w.heap.size ∧ w.cell? ⟨b, o + i, none⟩ = some (.int .u64 (n.ks.getD i 0)) ∧ 0 ≤ n.ks.getD i 0 ∧ n.ks.getD i 0 ≤ 18446744073709551615) := fun i hi => by
    obtain ⟨b, o, q1, q2, q3⟩ := h1.at i hi
    have : n.ks.getD i 0 ∈ n.ks := by simp only [List.getD, List.getElem?_eq_getElem hi, Option.getD_some]; exact List.getElem_mem hi
    exact ⟨b, o, q1, q2, q3, h1.1 _ this⟩
  have QA : Hid (∀ i, i < n.ks.length → ∃ b o s z, x3 = some ⟨b, o, none⟩ ∧ b < w.heap.size ∧ w.cell? ⟨b, o + i * 33, none⟩ = some (.int .u32 s) ∧ (0 ≤ s ∧ s ≤ 4294967295) ∧ Sees w (.slice (some ⟨b, o + i * 33 + 1, none⟩) 32 32) z ∧ z.length = 32 ∧ bsN n i = be 4 s ++ z) := fun i hi => by
    have hi2 : i < n.qs.length := by omega
    obtain ⟨_, _, x', c', e', q4⟩ := h3
    injection e' with e1 _ _
    subst e1
    have hg : n.qs[i]? = some n.qs[i] := List.getElem?_eq_getElem hi2
    obtain ⟨b, o, q5, q6, q7⟩ := q4 i _ hg
    have hbs : bsN n i = be 4 n.qs[i].1 ++ n.qs[i].2 := by unfold bsN; rw [hlf, if_neg (by decide)]; simp [List.getD, hi2]
    have hv := h5 _ (List.getElem_mem hi2)
    refine ⟨b, o, n.qs[i].1, n.qs[i].2, q5, q6, ?_, hf _ (List.getElem_mem hi2), ?_, hv.2, hbs⟩
    · have := q7 0 (.int .u32 n.qs[i].1) rfl
      exact this
    · refine sees_rng (fun j v hj => ?_) hv.1 hv.2 (by decide) (by decide)
      have := q7 (j + 1) v (by simpa [kid] using hj)
      rw [show o + i * 33 + 1 + j = o + i * 33 + (j + 1) by omega]
      exact this
  have GA := Lib.hid g0
  clear hW0 hW1 b0 b1 b2 hsz G0 G1 g0 g1 g2 al h1 h2 h3 h4 h5 hO e ok1 NR
  rw [hc] at A3
  rw [hd] at A2
  have hL : (n.ks.length : Int) ≤ 100 := by omega
  clear hc hd
  have HF := hlf
  clear hlf HF
  generalize parts n = l at *
  generalize n.ks.length = L at *
  go_enter Try.func9, Try.ntmps9
  go_upto_region 1 with (fail)
  rw [← HW0.out]
  go_upto_region 2 with (first
    | (refine wpList_build1 rfl 32 0 (.tmp 8) rfl (u := .bool false) rfl (BU.out _) ?_)
    | (refine wpList_store_row rfl 32 (.tmp 4) (.tmp 9) rfl W0.heap.size O rfl rfl 32 Z GN.out IO.out SO.out OO.out ?_))
  rw [RW.out]
  try simp only [Act.put]
  rw [HSZ.out]
  clear cc hz BU GN RW
  have cc0 := (cell_row GA.out 0).trans A0.out
  have cc1 := (cell_row GA.out 1).trans A1.out
  have cc2 := (cell_row GA.out 2).trans A2.out
  have cc3 := (cell_row GA.out 3).trans A3.out
  go_upto_region 4 with (fail)
  go_wp2_with fail
  clear cc0 cc1 cc2 cc3
  refine (show Code.wp _ _ _ _ _ from ?_)
  go_loopw [5] (fun v5 wr => ∃ i : Nat, i ≤ L ∧ v5 = .int .i64 (i : Int) ∧ AsR w A false l i wr) (fun v5 _ => L - (intOf v5).toNat)
  case atStart => exact ⟨0, by omega, rfl, START.out⟩
  case round =>
    obtain ⟨i, hi, rfl, hrel⟩ := hrel
    have HR := Lib.hid hrel
    obtain ⟨rows, x, c, r1, g0, g1, g2, ho, hr, hb⟩ := hrel
    have HRW := Lib.hid hr
    have HO := Lib.hid ho
    have HB := Lib.hid hb
    have R1 := Lib.hid r1
    have G0 := Lib.hid g0
    have G1 := Lib.hid g1
    have G2 := Lib.hid g2
    have cc1 := (cell_row g0 1).trans A1.out
    clear r1 g0 g1 g2 ho hr hb
    by_cases hlt : i < L
    · have hii : (i : Int) < (L : Int) := by omega
      have HLT := Lib.hid hlt
      obtain ⟨bk, ok, rfl, hlb, hck, hk0, hk1⟩ := KA.out i hlt
      obtain ⟨key, hkey⟩ : ∃ key, key = n.ks.getD i 0 := ⟨_, rfl⟩
      rw [← hkey] at hck hk0 hk1
      have PAI := PA.out i hlt
      rw [← hkey] at PAI
      have PI := Lib.hid PAI
      have CK := Lib.hid ((HB.out.cell (p := ⟨bk, ok + i, none⟩) hlb).trans hck)
      have K0 : Hid (0 ≤ key ∧ key ≤ 18446744073709551615) := ⟨hk0, hk1⟩
      clear hlt hlb hck hk0 hk1 PAI hkey
      obtain ⟨bv, ov, s, z, rfl, hqb, hqc, hqs, hsz, hzl, hbl⟩ := QA.out i HLT.out
      have SV := Lib.hid (hsz.below HB.out)
      have CS : Hid (CellF wr bv (ov + i * 33) (.int .u32 s)) := ⟨Nat.lt_of_lt_of_le hqb HB.out.size, (HB.out.cell (p := ⟨bv, ov + i * 33, none⟩) hqb).trans hqc⟩
      obtain ⟨bs, hbs⟩ : ∃ bs, bs = be 4 s ++ z := ⟨_, rfl⟩
      have PI := PI.out
      rw [hbl, ← hbs] at PI
      have PI := Lib.hid PI
      have HBS := Lib.hid hbs
      clear hbs
      have ZL := Lib.hid hzl
      have SB := Lib.hid hqs
      clear hqb hqc hqs hsz hzl hbl
      have hz6 := z61
      obtain ⟨Zp, hZp⟩ : ∃ Zp : Array Value, Zp = #[.int .u64 0, .slice none 0 0] := ⟨_, rfl⟩
      rw [← hZp] at hz6
      obtain ⟨P, hP⟩ : ∃ P : Array Value, P = #[.int .u64 key, .slice none 0 0] := ⟨_, rfl⟩
      have BP : Hid (∀ W, (Instr.build 61 #[(0, .int .u64 key)]).run Try.prog W = .ok (.agg P) W) := by show ∀ _, _; rw [hP]; exact b61 key
      have IP : Hid ((Try.prog.info? 61).map (·.size) = some P.size) := by show _ = _; rw [hP]; exact i61 _ _
      have SP : Hid (Zp.size = P.size) := by show _ = _; rw [hZp, hP]; rfl
      have OP : Hid (P.all (·.oneCell') = true) := by show _ = _; rw [hP]; simp [Value.oneCell']
      have HP := Lib.hid hP
      obtain ⟨Wp, hWp⟩ : ∃ Wp, Wp = wr.alloc (.cells P 61) := ⟨_, rfl⟩
      have al : Below wr.heap.size wr Wp := by rw [hWp]; exact (Below.refl _ _).alloc (Nat.le_refl _) _
      have GN := Lib.hid (heap_alloc_new wr (.cells Zp 61))
      have RW : Hid ((wr.alloc (.cells Zp 61)).setRow wr.heap.size P = Wp) := by show _ = _; rw [hWp]; exact alloc_setRowT wr Zp P 61 _ rfl
      have GP : Hid (Wp.heap[wr.heap.size]? = some (.cells P 61 (0, 0))) := by show _ = _; rw [hWp]; exact heap_alloc_new wr _
      have AL := Lib.hid al
      clear hZp hP hWp al
      go_upto_region 7 with (fail)
      have ck := CK.out
      go_upto_region 8 with (first
        | (refine wpList_build1 rfl 61 0 (.tmp 59) rfl (u := .int .u64 key) rfl (BP.out _) ?_)
        | (refine wpList_store_row rfl 61 (.tmp 6) (.tmp 60) rfl wr.heap.size P rfl rfl 61 Zp GN.out IP.out SP.out OP.out ?_))
      rw [RW.out]
      try simp only [Act.put]
      clear ck cc1 hz6 BP GN RW CK
      have GAp := Lib.hid ((AL.out.block _ (blk_lt G0.out)).trans G0.out)
      have cc0 := (cell_row GAp.out 0).trans A0.out
      go_upto_region 10 with (fail)
      clear cc0
      have P1 : Hid (P[1]? = some (.slice none 0 0)) := by show _ = _; rw [HP.out]; rfl
      have P2 : Hid (∀ v : Value, P.setIfInBounds 1 v = #[.int .u64 key, v]) := by show ∀ _, _; rw [HP.out]; intro v; rfl
      have SV := Lib.hid (SV.out.below AL.out)
      have HII := Lib.hid hii
      have GAw := G0
      have SB2 : Hid (s ≤ 18446744073709551615) := by have := SB.out.2; show s ≤ _; omega
      have WS : Hid (IntKind.u64.wrap s = s) := IntWalk.u64_in _ (by have := SB.out; omega)
      have CSw := CS
      refine wp_region_held_drew (S := fun W => Below wr.heap.size wr W ∧ W.heap[w.heap.size]? = some (.cells A 26 (0, 0))) (by kernel_rfl) (⟨AL.out.drew, GAp.out⟩) (fun hS => ?_)
      have hb0 : Below Wp.heap.size Wp Wp.drew := (Below.refl _ _).drew
      have qGP := (hb0.block _ (blk_lt GP.out)).trans GP.out
      have qSV := SV.out.below hb0
      clear hb0 GP SV
      generalize Wp.drew = Wvs at hS qGP qSV ⊢
      have GP := Lib.hid qGP
      have SV := Lib.hid qSV
      clear qGP qSV
      refine' wpAnyH_take (i := 0) ?h1x0v ?hsx0v ?hfx0v ?hrx0v ?hQx0v (Or.inl ⟨?hwx0v, ?hyx0v⟩) hS ?restx0v
      case h1x0v => (simp only [List.getElem?_toArray, List.getElem?_cons_zero]; rfl)
      case hsx0v | hfx0v | hrx0v => kernel_rfl
      case hQx0v => exact fun _ _ _ h => h
      case hwx0v => rfl
      case hyx0v =>
        intro W hW
        go_simp
        try with_reducible rfl
      simp only [Act.put, List.setIfInBounds_toArray, List.set_cons_succ, List.set_cons_zero]
      refine' wpAnyH_take (i := 2) ?h1x2v ?hsx2v ?hfx2v ?hrx2v ?hQx2v (Or.inl ⟨?hwx2v, ?hyx2v⟩) hS ?restx2v
      case h1x2v => (simp only [List.getElem?_toArray, List.getElem?_cons_succ, List.getElem?_cons_zero]; rfl)
      case hsx2v | hfx2v | hrx2v => kernel_rfl
      case hQx2v => exact fun _ _ _ h => h
      case hwx2v => rfl
      case hyx2v =>
        intro W hW
        go_simp
        try with_reducible rfl
      simp only [Act.put, List.setIfInBounds_toArray, List.set_cons_succ, List.set_cons_zero]
      refine' wpAnyH_take (i := 8) ?h1x8v ?hsx8v ?hfx8v ?hrx8v ?hQx8v (Or.inl ⟨?hwx8v, ?hyx8v⟩) hS ?restx8v
      case h1x8v => (simp only [List.getElem?_toArray, List.getElem?_cons_succ, List.getElem?_cons_zero]; rfl)
      case hsx8v | hfx8v | hrx8v => kernel_rfl
      case hQx8v => exact fun _ _ _ h => h
      case hwx8v => rfl
      case hyx8v =>
        intro W hW
        go_simp
        try with_reducible rfl
      simp only [Act.put, List.setIfInBounds_toArray, List.set_cons_succ, List.set_cons_zero]
      refine' wpAnyH_take (i := 10) ?h1x10v ?hsx10v ?hfx10v ?hrx10v ?hQx10v (Or.inl ⟨?hwx10v, ?hyx10v⟩) hS ?restx10v
      case h1x10v => (simp only [List.getElem?_toArray, List.getElem?_cons_succ, List.getElem?_cons_zero]; rfl)
      case hsx10v | hfx10v | hrx10v => kernel_rfl
      case hQx10v => exact fun _ _ _ h => h
      case hwx10v => rfl
      case hyx10v =>
        intro W hW
        go_simp
        try with_reducible rfl
      simp only [Act.put, List.setIfInBounds_toArray, List.set_cons_succ, List.set_cons_zero]
      refine' wpAnyH_take (i := 1) ?h1x1v ?hsx1v ?hfx1v ?hrx1v ?hQx1v (Or.inl ⟨?hwx1v, ?hyx1v⟩) hS ?restx1v
      case h1x1v => (simp only [List.getElem?_toArray, List.getElem?_cons_succ, List.getElem?_cons_zero]; rfl)
      case hsx1v | hfx1v | hrx1v => kernel_rfl
      case hQx1v => exact fun _ _ _ h => h
      case hwx1v => rfl
      case hyx1v =>
        intro W hW
        have cx := (cell_row hW.2 3).trans A3.out
        go_simp
        try with_reducible rfl
      simp only [Act.put, List.setIfInBounds_toArray, List.set_cons_succ, List.set_cons_zero]
      refine' wpAnyH_take (i := 9) ?h1x9v ?hsx9v ?hfx9v ?hrx9v ?hQx9v (Or.inl ⟨?hwx9v, ?hyx9v⟩) hS ?restx9v
      case h1x9v => (simp only [List.getElem?_toArray, List.getElem?_cons_succ, List.getElem?_cons_zero]; rfl)
      case hsx9v | hfx9v | hrx9v => kernel_rfl
      case hQx9v => exact fun _ _ _ h => h
      case hwx9v => rfl
      case hyx9v =>
        intro W hW
        have cx := (cell_row hW.2 3).trans A3.out
        go_simp
        try with_reducible rfl
      simp only [Act.put, List.setIfInBounds_toArray, List.set_cons_succ, List.set_cons_zero]
      refine' wpAnyH_take (i := 3) ?h1x3v ?hsx3v ?hfx3v ?hrx3v ?hQx3v (Or.inl ⟨?hwx3v, ?hyx3v⟩) hS ?restx3v
      case h1x3v => (simp only [List.getElem?_toArray, List.getElem?_cons_succ, List.getElem?_cons_zero]; rfl)
      case hsx3v | hfx3v | hrx3v => kernel_rfl
      case hQx3v => exact fun _ _ _ h => h
      case hwx3v => rfl
      case hyx3v =>
        intro W hW
        go_simp
        try with_reducible rfl
      simp only [Act.put, List.setIfInBounds_toArray, List.set_cons_succ, List.set_cons_zero]
      refine' wpAnyH_take (i := 11) ?h1x11v ?hsx11v ?hfx11v ?hrx11v ?hQx11v (Or.inl ⟨?hwx11v, ?hyx11v⟩) hS ?restx11v
      case h1x11v => (simp only [List.getElem?_toArray, List.getElem?_cons_succ, List.getElem?_cons_zero]; rfl)
      case hsx11v | hfx11v | hrx11v => kernel_rfl
      case hQx11v => exact fun _ _ _ h => h
      case hwx11v => rfl
      case hyx11v =>
        intro W hW
        go_simp
        try with_reducible rfl
      simp only [Act.put, List.setIfInBounds_toArray, List.set_cons_succ, List.set_cons_zero]
      refine' wpAnyH_take (i := 4) ?h1x4v ?hsx4v ?hfx4v ?hrx4v ?hQx4v (Or.inl ⟨?hwx4v, ?hyx4v⟩) hS ?restx4v
      case h1x4v => (simp only [List.getElem?_toArray, List.getElem?_cons_succ, List.getElem?_cons_zero]; rfl)
      case hsx4v | hfx4v | hrx4v => kernel_rfl
      case hQx4v => exact fun _ _ _ h => h
      case hwx4v => rfl
      case hyx4v =>
        intro W hW
        go_simp
        try with_reducible rfl
      simp only [Act.put, List.setIfInBounds_toArray, List.set_cons_succ, List.set_cons_zero]
      refine' wpAnyH_take (i := 12) ?h1x12v ?hsx12v ?hfx12v ?hrx12v ?hQx12v (Or.inl ⟨?hwx12v, ?hyx12v⟩) hS ?restx12v
      case h1x12v => (simp only [List.getElem?_toArray, List.getElem?_cons_succ, List.getElem?_cons_zero]; rfl)
      case hsx12v | hfx12v | hrx12v => kernel_rfl
      case hQx12v => exact fun _ _ _ h => h
      case hwx12v => rfl
      case hyx12v =>
        intro W hW
        go_simp
        try with_reducible rfl
      simp only [Act.put, List.setIfInBounds_toArray, List.set_cons_succ, List.set_cons_zero]
      refine' wpAnyH_take (i := 5) ?h1x5v ?hsx5v ?hfx5v ?hrx5v ?hQx5v (Or.inl ⟨?hwx5v, ?hyx5v⟩) hS ?restx5v
      case h1x5v => (simp only [List.getElem?_toArray, List.getElem?_cons_succ, List.getElem?_cons_zero]; rfl)
      case hsx5v | hfx5v | hrx5v => kernel_rfl
      case hQx5v => exact fun _ _ _ h => h
      case hwx5v => rfl
      case hyx5v =>
        intro W hW
        have cx := (CSw.out.below hW.1).2
        go_simp
        try with_reducible rfl
      simp only [Act.put, List.setIfInBounds_toArray, List.set_cons_succ, List.set_cons_zero]
      refine' wpAnyH_take (i := 13) ?h1x13v ?hsx13v ?hfx13v ?hrx13v ?hQx13v (Or.inl ⟨?hwx13v, ?hyx13v⟩) hS ?restx13v
      case h1x13v => (simp only [List.getElem?_toArray, List.getElem?_cons_succ, List.getElem?_cons_zero]; rfl)
      case hsx13v | hfx13v | hrx13v => kernel_rfl
      case hQx13v => exact fun _ _ _ h => h
      case hwx13v => rfl
      case hyx13v =>
        intro W hW
        go_simp
        try with_reducible rfl
      simp only [Act.put, List.setIfInBounds_toArray, List.set_cons_succ, List.set_cons_zero]
      refine' wpAnyH_take (i := 6) ?h1x6v ?hsx6v ?hfx6v ?hrx6v ?hQx6v (Or.inl ⟨?hwx6v, ?hyx6v⟩) hS ?restx6v
      case h1x6v => (simp only [List.getElem?_toArray, List.getElem?_cons_succ, List.getElem?_cons_zero]; rfl)
      case hsx6v | hfx6v | hrx6v => kernel_rfl
      case hQx6v => exact fun _ _ _ h => h
      case hwx6v => rfl
      case hyx6v =>
        intro W hW
        have hx := WS.out
        go_simp
        try with_reducible rfl
      simp only [Act.put, List.setIfInBounds_toArray, List.set_cons_succ, List.set_cons_zero]
      refine wpAnyH_ready (rs := [7]) (by kernel_rfl) (by simp) ?_
      refine' (AllReadyH.cons ?hoc7v (fun K hK => ?stc7v) AllReadyH.nil)
      case hoc7v => (simp only [List.getElem?_toArray, List.getElem?_cons_succ, List.getElem?_cons_zero]; rfl)
      have gpl := blk_lt GP.out
      go_simp
      refine (oc.refBytes s 4 (by decide) SB.out.1 SB2.out Wvs).mono ?_
      rintro e Wvx7 ⟨yb, db, rfl, hob, hb⟩
      have GP := Lib.hid ((hb.block _ (blk_lt GP.out)).trans GP.out)
      have SV := Lib.hid (SV.out.below hb)
      have OB := Lib.hid (own_le hob gpl)
      clear hob gpl
      go_wp2_with fail
      refine hK.out _ _ (⟨hS.1.trans (hb.mono hS.1.size), (hb.block _ (blk_lt hS.2)).trans hS.2⟩) (fun hHeld => ?_)
      clear hK K
      try simp only [Act.put, List.setIfInBounds_toArray, List.set_cons_succ, List.set_cons_zero]
      clear hS
      have hS := hHeld
      clear hHeld
      clear hb
      refine wpAnyH_ready (rs := [14]) (by kernel_rfl) (by simp) ?_
      refine' (AllReadyH.cons ?hoc14vx7 (fun K hK => ?stc14vx7) AllReadyH.nil)
      case hoc14vx7 => (simp only [List.getElem?_toArray, List.getElem?_cons_succ, List.getElem?_cons_zero]; rfl)
      obtain ⟨y, d, Wvx7x14, hrun, hown, hgr, hbel⟩ := oc.app OB.out SV.out (by rw [oc.be_len, ZL.out]; decide) (blk_lt GP.out)
      rw [← List.length_append, ← HBS.out] at hrun hown
      refine step_apq rfl (.tmp 79) (.tmp 85) rfl rfl rfl rfl hrun ?_
      have gpl := blk_lt GP.out
      have hbw : Below (wr.heap.size + 1) Wvx7 Wvx7x14 := hbel
      have OWN := Lib.hid hown
      have hS2 := hS.1.trans (hbw.mono (by have := hS.1.size; omega))
      have hS3 := (hbw.block _ (by have := blk_lt hS.2; have := blk_lt GAw.out; have := blk_lt GP.out; omega)).trans hS.2
      have qGP := (hbw.block _ (by have := blk_lt GP.out; omega)).trans GP.out
      refine hK.out _ _ ⟨hS2, hS3⟩ (fun hHeld => ?_)
      clear hK K hrun hown hgr hbel hbw hS2 hS3 gpl
      try simp only [Act.put, List.setIfInBounds_toArray, List.set_cons_succ, List.set_cons_zero]
      clear hS GP
      have hS := hHeld
      clear hHeld
      have GP := Lib.hid qGP
      clear qGP
      refine' wpAnyH_take (i := 15) ?h1x15vx7x14 ?hsx15vx7x14 ?hfx15vx7x14 ?hrx15vx7x14 ?hQx15vx7x14 (Or.inl ⟨?hwx15vx7x14, ?hyx15vx7x14⟩) hS ?restx15vx7x14
      case h1x15vx7x14 => (simp only [List.getElem?_toArray, List.getElem?_cons_succ, List.getElem?_cons_zero]; rfl)
      case hsx15vx7x14 | hfx15vx7x14 | hrx15vx7x14 => kernel_rfl
      case hQx15vx7x14 => exact fun _ _ _ h => h
      case hwx15vx7x14 => rfl
      case hyx15vx7x14 =>
        intro W hW
        go_simp
        try with_reducible rfl
      simp only [Act.put, List.setIfInBounds_toArray, List.set_cons_succ, List.set_cons_zero]
      refine wpAnyH_ready (rs := [16]) (by kernel_rfl) (by simp) ?_
      refine' (AllReadyH.cons ?hoc16vx7x14 (fun K hK => ?stc16vx7x14) AllReadyH.nil)
      case hoc16vx7x14 => (simp only [List.getElem?_toArray, List.getElem?_cons_succ, List.getElem?_cons_zero]; rfl)
      have ck := (cell_row GP.out 1).trans P1.out
      have fz := oc.frozen_block GP.out 1
      have qc := heap_setCell_same Wvx7x14 wr.heap.size 1 P 61 (.slice y bs.length d) GP.out
      have hgs : Wvx7x14.grownBy (Wvx7x14.setCell ⟨wr.heap.size, 1, none⟩ (.slice y bs.length d)) (some wr.heap.size) := by
        rw [setCell_eq_setRow _ _ _ _ _ _ _ GP.out]
        exact oc.grownBy_setRow _ _ _
      have hS2 := hS.1.setCell (p := ⟨wr.heap.size, 1, none⟩) (Nat.le_refl _) (.slice y bs.length d)
      have hS3 := (hgs.block _ (blk_lt hS.2) (by have := blk_lt GAw.out; simp; omega)).trans hS.2
      have OWN2 := Lib.hid (OWN.out.grown hgs (by
        cases hn : (Value.slice y bs.length d).ownBlock with
        | none => exact .inl rfl
        | some b => exact .inr (fun e => by injection e with e; have := (OWN.out.2.lt b hn).1; omega)))
      go_simp
      refine hK.out _ _ ⟨hS2, hS3⟩ (fun hHeld => ?_)
      clear hK K ck fz hgs hS2 hS3 hS OWN GP
      try simp only [Act.put]
      generalize Wvx7x14.setCell ⟨wr.heap.size, 1, none⟩ (.slice y bs.length d) = Wf at *
      have hS := hHeld
      clear hHeld
      rw [P2.out] at qc
      have GP := Lib.hid qc
      clear qc
      refine wpAnyH_done (by kernel_rfl) ?_ _
      have h3 := hS.1
      clear hS
      obtain ⟨x', c', W5, hrun, hg5, hstep⟩ := AsR.step R1.out G0.out G1.out G2.out HO.out HRW.out HB.out h3 (own_le OWN2.out (by omega)) K0.out PI.out (by omega)
      have HRUN := Lib.hid hrun
      have HSTEP := Lib.hid hstep
      have cg := (cell_row ((h3.block _ (blk_lt G2.out)).trans G2.out) 1).trans (show (#[Value.bool false, .slice x i c] : Array Value)[1]? = some (.slice x i c) from rfl)
      have c5 := (cell_row hg5 1).trans (show (#[Value.bool false, .slice x i c] : Array Value)[1]? = some (.slice x i c) from rfl)
      have f5 := oc.frozen_block hg5 1
      have BS3 := Lib.hid (bs30 key y bs.length d Wf)
      clear h3 hrun hstep hg5
      go_upto_region 11 with (fail)
      go_wp2_with (first
        | (refine wpList_load_row rfl 61 (.tmp 6) rfl wr.heap.size rfl 61 #[.int .u64 key, .slice y bs.length d] (0, 0) _ GP.out Try.underlying61 rfl (i61 _ _) ?_; refine wpList_bs rfl 30 1 (.tmp 90) rfl (u := .agg #[.int .u64 key, .slice y bs.length d]) rfl BS3.out ?_; refine wpList_appK 30 rfl (.tmp 89) (.tmp 91) rfl rfl rfl rfl HRUN.out ?_))
      go_roundw
      case rel => exact ⟨i + 1, by omega, by go_num, HSTEP.out⟩
      case measure => simp [intOf]; omega
    · have hge : ¬ (i : Int) < (L : Int) := by omega
      obtain rfl : i = L := by omega
      obtain ⟨Q, q1, q2, q3, q4, q5, q6⟩ := HR.out.fin (by rw [PL.out]) (by omega)
      have Q1 : Hid ((Try.prog.info? 32).map (·.size) = some Q.size) := by show _ = _; rw [q1]; exact info32
      have Q2 := Lib.hid q2
      have Q3 := Lib.hid q3
      have Q4 := Lib.hid q4
      have Q5 : Hid ((#[.bool false, .slice none 0 0] : Array Value).size = Q.size) := by show _ = _; rw [q1]; rfl
      have Q6 := Lib.hid (FIN.out _ _ q5 q6)
      have Q7 := Lib.hid (setRow_heap wr (w.heap.size + 1) _ Q 32 _ q4)
      clear q1 q2 q3 q4 q5 q6
      go_upto_region 12 with (fail)
      clear cc1
      go_wp2_with (first
        | (refine wpList_load_row rfl 32 (.tmp 4) rfl (w.heap.size + 2) rfl 32 Q (0, 0) _ Q3.out Try.underlying32 rfl Q1.out ?_)
        | (refine wpList_store_row rfl 32 (.tmp 2) (.tmp 94) rfl (w.heap.size + 1) Q rfl rfl 32 _ Q4.out Q1.out Q5.out Q2.out ?_))
      exact bodyPost_ret (v := .tuple #[.agg Q, .bool true]) (results_cell_tmp Try.results9 _ _ (w.heap.size + 1) 32 Q (0, 0) _ rfl Q7.out Try.underlying32 rfl Q1.out) rfl Q6.out
end Go.Proofs.Ytnifaldgofmciaa
