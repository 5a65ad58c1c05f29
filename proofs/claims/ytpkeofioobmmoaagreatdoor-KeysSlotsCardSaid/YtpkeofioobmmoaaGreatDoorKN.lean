/-
  The contracts of keys.Make and keys.Open. Condition: none.
-/
import Derived.Test.YtpkeofioobmmoaaGreatDoorK1
import Derived.Test.YtpkeofioobmmoaaGreatDoorAeWrQ
import Derived.Laws.Cover3
import Derived.Deep.MidRow
import Derived.Deep.DeepCutAuto
namespace Go.Proofs.YtpkeofioobmmoaaGreatDoor
open Go.RowKit Go.Proofs.YtpkeofioobmmoaaGreatDoor.ae
theorem fold_at (off : Nat) : ∀ (L : List Value) (k : Nat) (cs : Array Value) (i : Nat), ((L.zipIdx k).foldl (fun cs (p : Value × Nat) => cs.setIfInBounds (off + p.2) p.1) cs)[i]? = if off + k ≤ i ∧ i < off + k + L.length ∧ i < cs.size then L[i - off - k]? else cs[i]?
  | [], k, cs, i => by
    rw [if_neg (by simp; omega)]; rfl
  | c :: L, k, cs, i => by
    rw [List.zipIdx_cons, List.foldl_cons, fold_at off L (k + 1)]
    simp only [Array.size_setIfInBounds, List.length_cons, Array.getElem?_setIfInBounds]
    by_cases h1 : off + k = i
    · subst h1
      rw [if_neg (by omega)]
      by_cases h2 : off + k < cs.size
      · rw [if_pos rfl, if_pos h2, if_pos (by omega)]
        simp
      · rw [if_pos rfl, if_neg h2, if_neg (by omega)]
        rw [Array.getElem?_eq_none (by omega)]
    · rw [if_neg h1]
      by_cases h2 : off + k + 1 ≤ i ∧ i < off + k + 1 + L.length ∧ i < cs.size
      · rw [if_pos (by omega), if_pos (by omega)]
        rw [show i - off - k = (i - off - (k + 1)) + 1 by omega, List.getElem?_cons_succ]
      · rw [if_neg (by omega), if_neg (by omega)]
theorem fold_cells (cs B : Array Value) (off : Nat) (i : Nat) : ((B.zipIdx).foldl (fun cs (p : Value × Nat) => cs.setIfInBounds (off + p.2) p.1) cs)[i]? = if off ≤ i ∧ i < off + B.size ∧ i < cs.size then B[i - off]? else cs[i]? := by
  rw [← Array.foldl_toList, Array.toList_zipIdx, fold_at off B.toList 0 cs i]
  simp
theorem fold_part (A Z B C : List Nat) (h : Z.length = B.length) : ((ncells B).zipIdx).foldl (fun cs (p : Value × Nat) => cs.setIfInBounds (A.length + p.2) p.1) (ncells (A ++ Z ++ C)) = ncells (A ++ B ++ C) := by
  apply Array.ext_getElem?
  intro i
  rw [fold_cells, nsize, nsize]
  simp only [ncells, List.getElem?_toArray, List.getElem?_map, List.length_append]
  by_cases h1 : i < A.length
  · rw [if_neg (by omega), List.append_assoc, List.append_assoc, List.getElem?_append_left h1, List.getElem?_append_left h1]
  · by_cases h2 : i < A.length + B.length
    · rw [if_pos (by omega), List.append_assoc A B C, List.getElem?_append_right (l₁ := A) (by omega), List.getElem?_append_left (l₁ := B) (by omega)]
    · rw [if_neg (by omega), List.getElem?_append_right (l₁ := A ++ Z) (by simp; omega), List.getElem?_append_right (l₁ := A ++ B) (by simp; omega)]
      simp only [List.length_append, h]
theorem agg_cells (C : Array Value) : (Value.agg C).cells = C := rfl
/-- A slot's parts, put together. -/
theorem build41 (A B C : List Nat) (hA : A.length = 32) (hB : B.length = 32) (hC : C.length = 40) (w : World) : (Instr.build 26 #[(0, .agg (ncells A)), (1, .agg (ncells B)), (2, .agg (ncells C))]).run Tryz.prog w = .ok (.agg (ncells (A ++ B ++ C))) w := by
  apply run_build
  have hp : Tryz.prog.built 26 [(0, .agg (ncells A)), (1, .agg (ncells B)), (2, .agg (ncells C))] = Instr.fill (#[(0, 32), (32, 32), (64, 40)][·]?) (ncells (zeros 104)) [(0, .agg (ncells A)), (1, .agg (ncells B)), (2, .agg (ncells C))] := by kernel_rfl
  show Tryz.prog.built 26 [(0, .agg (ncells A)), (1, .agg (ncells B)), (2, .agg (ncells C))] = _
  rw [hp]
  unfold Instr.fill
  simp only [List.getElem?_toArray, List.getElem?_cons_zero, agg_cells, nsize, hA, zeros_len]
  rw [if_neg (by simp)]
  have e1 := fold_part [] (zeros 32) A (zeros 72) (by rw [hA, zeros_len])
  rw [List.nil_append, List.nil_append, zeros_add] at e1
  rw [show (fun (cs : Array Value) (x : Value × Nat) => match x with | (c, j) => cs.setIfInBounds (0 + j) c) = fun cs (p : Value × Nat) => cs.setIfInBounds (([] : List Nat).length + p.2) p.1 from rfl, show (104 : Nat) = 32 + 72 from rfl, e1]
  unfold Instr.fill
  simp only [List.getElem?_cons_zero, List.getElem?_cons_succ, agg_cells, nsize, hA, hB, zeros_len, List.length_append]
  rw [if_neg (by simp)]
  have e2 := fold_part A (zeros 32) B (zeros 40) (by rw [hB, zeros_len])
  rw [List.append_assoc, zeros_add] at e2
  rw [show (fun (cs : Array Value) (x : Value × Nat) => match x with | (c, j) => cs.setIfInBounds (32 + j) c) = fun cs (p : Value × Nat) => cs.setIfInBounds (A.length + p.2) p.1 from by rw [hA], show (72 : Nat) = 32 + 40 from rfl, e2]
  unfold Instr.fill
  simp only [List.getElem?_cons_zero, List.getElem?_cons_succ, agg_cells, nsize, hA, hB, hC, zeros_len, List.length_append]
  rw [if_neg (by simp)]
  have e3 := fold_part (A ++ B) (zeros 40) C [] (by rw [hC, zeros_len])
  rw [List.append_nil, List.append_nil] at e3
  rw [show (fun (cs : Array Value) (x : Value × Nat) => match x with | (c, j) => cs.setIfInBounds (64 + j) c) = fun cs (p : Value × Nat) => cs.setIfInBounds ((A ++ B).length + p.2) p.1 from by rw [List.length_append, hA, hB], e3]
  rfl
/-- A part of a row. -/
theorem range_mid {W : World} {g : Nat} {t : TypeId} (A B C : List Nat) (n : Nat) (hA : A.length = n) (h : W.heap[g]? = some (.cells (ncells (A ++ B ++ C)) t (0, 0))) : W.rangeAt g n (ncells B).toList := fun j v hv => by
  have hj : j < B.length := by
    rcases Nat.lt_or_ge j B.length with h4 | h4
    · exact h4
    · rw [List.getElem?_eq_none (by simp [ncells]; omega)] at hv; cases hv
  rw [cell_of_row _ _ _ _ _ _ h, ← hv]
  simp only [ncells, List.getElem?_toArray, List.getElem?_map]
  rw [List.append_assoc, List.getElem?_append_right (by omega), List.getElem?_append_left (by omega), show n + j - A.length = j by omega]
theorem sees_mid {W : World} {g : Nat} {t : TypeId} (A B C : List Nat) (n m : Nat) (hA : A.length = n) (hB : ae.Bts m B) (hm : 0 < m ∧ m ≤ 1000) (h : W.heap[g]? = some (.cells (ncells (A ++ B ++ C)) t (0, 0))) : ae.Sees W (.slice (some ⟨g, n, none⟩) m m) B := by
  refine ⟨hB.2, .inr (.inr ⟨g, n, m, by rw [hB.1], ?_, by rw [hB.1]; exact Nat.le_refl _, by unfold maxLen; omega, fun i hi => ?_⟩)⟩
  · intro e; have := hB.1; rw [e] at this; simp at this; omega
  · have := range_mid A B C n hA h i (.int .u8 (at_ B i : Nat)) (by
      have := ncell B i hi
      simpa [at_] using this)
    exact this
open Go.RowKit Go.Proofs.YtpkeofioobmmoaaGreatDoor.ae
theorem step_load_at {P : Program} {ops : Array Oper} {o : Oper} {a : Act} {w : World} {K : Act → World → Prop} {Q : Exit → Act → World → Prop} {E : Prop} (hgd : o.guard = none) (ty : TypeId) (x : Operand) (ho : o.op = .load ty x)
    (b off : Nat) (hx : a.eval x = .pointer (some ⟨b, off, none⟩)) (cs : Array Value) (d : TypeDesc) (hc : w.rangeAt b off cs.toList) (hu : P.underlying ty = some d) (hd : d.isRow = true) (hi : (P.info? ty).map (·.size) = some cs.size)
    (hK : K (a.put o.dst (.agg cs)) w) : if Region.wanted o (yielded ops a.tmps) = true then Oper.wp P o a w K Q else E := by
  have hw : Region.wanted o (yielded ops a.tmps) = true := by simp [Region.wanted, hgd]
  rw [if_pos hw]
  exact wp_load_mid ty x ho b off hx cs.toList d hc hu hd (by rw [Array.length_toList]; exact hi) hK
theorem range_sees {W : World} {b o n c : Nat} {l : List Nat} (h : ae.Sees W (.slice (some ⟨b, o, none⟩) n c) l) (h0 : l ≠ []) : W.rangeAt b o (ncells l).toList := fun j v hv => by
  obtain ⟨b', o', hx, _, _, _, h4⟩ := h.cells h0
  simp only [Option.some.injEq, Addr.mk.injEq] at hx
  obtain ⟨rfl, rfl, _⟩ := hx
  have hj : j < l.length := by
    rcases Nat.lt_or_ge j l.length with h4 | h4
    · exact h4
    · rw [List.getElem?_eq_none (by simp [ncells]; omega)] at hv; cases hv
  rw [h4 j hj, ← hv]
  have := ncell l j hj
  simpa [at_] using this.symm
theorem step_build_run {ops : Array Oper} {o : Oper} {a : Act} {w : World} {K : Act → World → Prop} {Q : Exit → Act → World → Prop} {E : Prop} (hgd : o.guard = none) (t : TypeId) (parts : Array (Nat × Operand)) (ho : o.op = .build t parts)
    (vs : Array (Nat × Value)) (hv : parts.map (fun (i, x) => (i, a.eval x)) = vs) {v : Value} (hr : (Instr.build t vs).run Tryz.prog w = .ok v w) (hK : K (a.put o.dst v) w) : if Region.wanted o (yielded ops a.tmps) = true then Oper.wp Tryz.prog o a w K Q else E := by
  have hw : Region.wanted o (yielded ops a.tmps) = true := by simp [Region.wanted, hgd]
  rw [if_pos hw]
  unfold Oper.wp execOp
  simp only [ho, hv, Sem.run_bind, hr, Result.andThen_ok]
  exact hK
theorem results_row_val {P : Program} {fn : Func} {p q : Tmp} {ty : TypeId} (h : fn.results = #[.cell p ty, .tmp q]) (tmps : Array Value) (w : World) (g : Nat) (t : TypeId) (cs : Array Value) (fr : Nat × Nat) (d : TypeDesc) (v : Value)
    (hp : tmps.getD p undef = .pointer (some ⟨g, 0, none⟩)) (hq : tmps.getD q undef = v) (hg : w.heap[g]? = some (.cells cs t fr))
    (hu : P.underlying ty = some d) (hd : (match d with | .struct _ | .array _ _ => true | _ => false) = true) (hi : (P.info? ty).map (·.size) = some cs.size) :
    (results fn tmps).run P w = .ok (.tuple #[.agg cs, v]) w := by
  have hp' : tmps[p]?.getD undef = .pointer (some ⟨g, 0, none⟩) := by simpa using hp
  have hq' : tmps[q]?.getD undef = v := by simpa using hq
  simp [results, h, hp', hq', asAddr, run_loadVar_row w g t ty cs fr d hg hu hd hi]
theorem i39s : (Tryz.prog.info? 24).map (·.size) = some 40 := by kernel_rfl
theorem i39k {b : List Nat} (h : b.length = 40) : (Tryz.prog.info? 24).map (·.size) = some (ncells b).size := by rw [i39s, nsize, h]
theorem i41s : (Tryz.prog.info? 26).map (·.size) = some 104 := by kernel_rfl
theorem i41 {b : List Nat} (h : b.length = 104) : (Tryz.prog.info? 26).map (·.size) = some (ncells b).size := by rw [i41s, nsize, h]
theorem zero41 : ∀ w, (zeroValue 26).run Tryz.prog w = .ok (.agg (ncells (zeros 104))) w := fun _ => by kernel_rfl
theorem u39 : Tryz.prog.underlying 24 = some (.array 40 5) := by kernel_rfl
theorem u38 : Tryz.prog.underlying 23 = some (.array 32 5) := by kernel_rfl
theorem len39 : Tryz.prog.arrayLen 24 = 40 := by kernel_rfl
theorem und39 : Tryz.prog.underlying 24 = some (.array (Tryz.prog.arrayLen 24) (Tryz.prog.elem 24)) := by kernel_rfl
theorem size39 (W : World) : (sizeOf (Tryz.prog.elem 24)).run Tryz.prog W = .ok 1 W := by kernel_rfl
theorem arr39 (g o : Nat) (W : World) : (Instr.sliceAt 24 (.pointer (some ⟨g, o, none⟩)) none none none).run Tryz.prog W = .ok (.slice (some ⟨g, o, none⟩) 40 40) W := by
  rw [run_sliceAt_array_all W 24 ⟨g, o, none⟩ und39, size39]
  simp [Result.andThen, slicedAt, len39, ae.addr_add]
theorem at39 (a : Option Addr) (c : Nat) (W : World) : (Instr.arrayAt 24 (.slice a 40 c)).run Tryz.prog W = .ok (.pointer a) W := run_arrayAt W 24 5 40 a 40 c u39 (Nat.le_refl _)
theorem at38 (a : Option Addr) (c : Nat) (W : World) : (Instr.arrayAt 23 (.slice a 32 c)).run Tryz.prog W = .ok (.pointer a) W := run_arrayAt W 23 5 32 a 32 c u38 (Nat.le_refl _)
theorem build38z : ∀ w, (Instr.build 23 #[]).run Tryz.prog w = .ok (.agg (ncells (zeros 32))) w := fun _ => by kernel_rfl
/-- A slot's bytes. -/
def slotN (outer master salt : List Nat) : List Nat := salt ++ chk outer salt ++ wrp (wrk outer salt) master 4
theorem wrp_bts {k m : List Nat} (hk : ae.Bts 32 k) (hm : ae.Bts 32 m) : ae.Bts 40 (wrp k m 4) := by
  have := tn_ok (fun x hx => enc_bts hk hx) (n := 4) (by omega) (l := fr8 ++ m) (by rw [List.length_append, fr8_len, hm.1]) (fr8_byt.append hm.2) 24 (by omega)
  exact ⟨this.1, this.2⟩
def WrpP (w : World) (J : List Nat) (e : Ending) (w' : World) : Prop := ∃ q c, e = .returned (.tuple #[.slice q 40 c, .int .i64 0]) ∧ ae.Sees w' (.slice q 40 c) J ∧ Below w.heap.size w w'
set_option maxRecDepth 100000 in
set_option maxHeartbeats 8000000 in
theorem makeK (outer master salt : List Nat) (ho : ae.Bts 32 outer) (hm : ae.Bts 32 master) (hs : ae.Bts 32 salt) (w : World) (hG : sh.Glob w) :
    Calls Tryz.prog 8 #[.agg (ncells outer), .agg (ncells master), .agg (ncells salt)] w fun e w' => e = .returned (.agg (ncells (slotN outer master salt))) ∧ Below w.heap.size w w' := by
  have z38 := ae.zero23
  have z41 := zero41
  obtain ⟨Z, hZ⟩ : ∃ Z, Z = ncells (zeros 32) := ⟨_, rfl⟩
  obtain ⟨ZS, hZS⟩ : ∃ ZS, ZS = ncells (zeros 104) := ⟨_, rfl⟩
  rw [← hZ] at z38
  rw [← hZS] at z41
  have ZL : Hid (∀ l : List Nat, l.length = 32 → Z.size = (ncells l).size) := fun l hl => by rw [hZ]; exact z23 hl
  have bc := chk_bts (outer := outer) hs.2
  have bw := wrk_bts (outer := outer) hs.2
  have bp := wrp_bts bw hm
  have LO := Lib.hid ho.1
  have LS := Lib.hid hs.1
  have LC := Lib.hid bc.1
  have LW := Lib.hid bw.1
  have LP := Lib.hid bp.1
  have lj : (slotN outer master salt).length = 104 := by unfold slotN; rw [List.length_append, List.length_append, hs.1, bc.1, bp.1]
  have IJ := Lib.hid (i41 lj)
  have ZJ : Hid (ZS.size = (ncells (slotN outer master salt)).size) := by show _ = _; rw [hZS, nsize, nsize, zeros_len, lj]
  have BD : Hid (∀ W : World, (Instr.build 26 #[(0, .agg (ncells salt)), (1, .agg (ncells (chk outer salt))), (2, .agg (ncells (wrp (wrk outer salt) master 4)))]).run Tryz.prog W = .ok (.agg (ncells (slotN outer master salt))) W) := fun W => build41 _ _ _ hs.1 bc.1 bp.1 W
  have LK : Hid (∀ W : World, sh.Glob W → Calls Tryz.prog 12 #[.agg (ncells outer), .agg (ncells salt)] W fun e w' => e = .returned (.tuple #[.agg (ncells (chk outer salt)), .agg (ncells (wrk outer salt))]) ∧ Below W.heap.size W w') := fun W hg => locks outer salt ho hs W hg
  have WP : Hid (∀ (W : World) (g : Nat), W.heap[g]? = some (.cells (ncells master) 23 (0, 0)) → Calls Tryz.prog 19 #[.agg (ncells (wrk outer salt)), .slice (some ⟨g, 0, none⟩) 32 32] W (WrpP W (wrp (wrk outer salt) master 4))) :=
    fun W g h => wrapYes _ master bw 4 _ 32 32 W (sees32 h hm) hm.1.symm rfl (by omega) (by omega)
  have PNE : Hid (wrp (wrk outer salt) master 4 ≠ []) := fun e => by have := bp.1; rw [e] at this; simp at this
  have h2w : 2 ≤ w.heap.size := by have := hG.lt; omega
  obtain ⟨W0, hW0⟩ : ∃ W0, W0 = (((w.alloc (.cells (ncells outer) 23)).alloc (.cells (ncells master) 23)).alloc (.cells (ncells salt) 22)).alloc (.cells ZS 26) := ⟨_, rfl⟩
  have b1 : Below w.heap.size w (w.alloc (.cells (ncells outer) 23)) := (Below.refl _ _).alloc (Nat.le_refl _) _
  have b2 := b1.alloc (by simp) (.cells (ncells master) 23)
  have b3 := b2.alloc (by simp <;> omega) (.cells (ncells salt) 22)
  have b4 := b3.alloc (by simp <;> omega) (.cells ZS 26)
  have HB : Hid (Below w.heap.size w W0) := by rw [hW0]; exact b4
  have SZ : Hid (W0.heap.size = w.heap.size + 4) := by show _ = _; rw [hW0]; simp
  have G0 : Hid (W0.heap[w.heap.size]? = some (.cells (ncells outer) 23 (0, 0))) := by
    show _ = _
    rw [hW0, Below.heap_alloc _ _ _ (by simp <;> omega), Below.heap_alloc _ _ _ (by simp <;> omega), Below.heap_alloc _ _ _ (by simp)]; exact heap_alloc_new w _
  have G1 : Hid (W0.heap[w.heap.size + 1]? = some (.cells (ncells master) 23 (0, 0))) := by
    show _ = _
    rw [hW0, Below.heap_alloc _ _ _ (by simp <;> omega), Below.heap_alloc _ _ _ (by simp <;> omega)]; exact heap_alloc2_new w _ _
  have G2 : Hid (W0.heap[w.heap.size + 1 + 1]? = some (.cells (ncells salt) 22 (0, 0))) := by
    show _ = _
    rw [hW0, Below.heap_alloc _ _ _ (by simp <;> omega)]
    have := heap_alloc_new ((w.alloc (.cells (ncells outer) 23)).alloc (.cells (ncells master) 23)) (.cells (ncells salt) 22)
    simpa using this
  have G3 : Hid (W0.heap[w.heap.size + 1 + 1 + 1]? = some (.cells ZS 26 (0, 0))) := by
    show _ = _
    have := heap_alloc_new (((w.alloc (.cells (ncells outer) 23)).alloc (.cells (ncells master) 23)).alloc (.cells (ncells salt) 22)) (.cells ZS 26)
    rw [hW0]
    simpa using this
  have HG := Lib.hid (hG.below b4 h2w)
  rw [← hW0] at HG
  have HW0 := Lib.hid hW0
  clear hW0 b1 b2 b3 b4 ho hs hm hG hZ hZS bc bw bp lj h2w
  generalize slotN outer master salt = J at IJ ZJ BD ⊢
  generalize wrp (wrk outer salt) master 4 = PP at LP BD WP PNE
  generalize chk outer salt = CK at LC LK BD
  generalize wrk outer salt = WK at LW LK WP
  have a38 := arr38
  go_enter Tryz.func8, Tryz.ntmps8
  go_wp2_with (first
    | (refine wpList_load_row rfl 23 (.tmp 3) rfl w.heap.size rfl 23 (ncells outer) (0, 0) _ (by rw [← HW0.out]; exact G0.out) Tryz.underlying23 rfl (i23 LO.out) ?_)
    | (refine wpList_load_row rfl 22 (.tmp 5) rfl (w.heap.size + 1 + 1) rfl 22 (ncells salt) (0, 0) _ (by rw [← HW0.out]; exact G2.out) Tryz.underlying22 rfl (i37 LS.out) ?_))
  rw [← HW0.out]
  refine (LK.out _ HG.out).mono ?_
  rintro e w1 ⟨rfl, hb⟩
  have q0 := (hb.block _ (blk_lt G1.out)).trans G1.out
  have q1 := (hb.block _ (blk_lt G2.out)).trans G2.out
  have q2 := (hb.block _ (blk_lt G3.out)).trans G3.out
  have al : Below w1.heap.size w1 ((w1.alloc (.cells Z 23)).alloc (.cells Z 23)) := ((Below.refl _ _).alloc (Nat.le_refl _) _).alloc (by simp) _
  have A1 : Hid (((w1.alloc (.cells Z 23)).alloc (.cells Z 23)).heap[w1.heap.size]? = some (.cells Z 23 (0, 0))) := by show _ = _; rw [Below.heap_alloc _ _ _ (by simp)]; exact heap_alloc_new w1 _
  have A2 : Hid ((((w1.alloc (.cells Z 23)).alloc (.cells Z 23)).setRow w1.heap.size (ncells CK)).heap[w1.heap.size + 1]? = some (.cells Z 23 (0, 0))) := by show _ = _; rw [setRow_other _ _ _ _ (by omega)]; exact heap_alloc2_new w1 _ _
  have bs : Below w1.heap.size w1 ((((w1.alloc (.cells Z 23)).alloc (.cells Z 23)).setRow w1.heap.size (ncells CK)).setRow (w1.heap.size + 1) (ncells WK)) := (al.trans (below_row _ _ (Nat.le_refl _))).trans (below_row _ _ (by omega))
  have f7 : ((((w1.alloc (.cells Z 23)).alloc (.cells Z 23)).setRow w1.heap.size (ncells CK)).setRow (w1.heap.size + 1) (ncells WK)).heap[w1.heap.size]? = some (.cells (ncells CK) 23 (0, 0)) := by
    rw [setRow_other _ _ _ _ (by omega)]; exact setRow_heap _ _ _ _ _ _ A1.out
  have f8 : ((((w1.alloc (.cells Z 23)).alloc (.cells Z 23)).setRow w1.heap.size (ncells CK)).setRow (w1.heap.size + 1) (ncells WK)).heap[w1.heap.size + 1]? = some (.cells (ncells WK) 23 (0, 0)) := setRow_heap _ _ _ _ _ _ A2.out
  have g1 := (bs.block _ (blk_lt q0)).trans q0
  have g2 := (bs.block _ (blk_lt q1)).trans q1
  have g3 := (bs.block _ (blk_lt q2)).trans q2
  have hg7 : w.heap.size + 4 ≤ w1.heap.size := by have := hb.size; have := SZ.out; omega
  have hbb := (HB.out.trans (hb.mono HB.out.size)).trans (bs.mono (by omega))
  have HG7 := Lib.hid hg7
  have F7 := Lib.hid f7
  have F8 := Lib.hid f8
  have G1 := Lib.hid g1
  have G2 := Lib.hid g2
  have G3 := Lib.hid g3
  have HB := Lib.hid hbb
  clear hb q0 q1 q2 al bs f7 f8 g1 g2 g3 hg7 hbb LK HG HW0 SZ
  go_upto_region 2 with (first
    | (refine wpList_store_row rfl 23 (.tmp 7) (.tmp 15) rfl w1.heap.size (ncells CK) rfl rfl 23 Z A1.out (i23 LC.out) (ZL.out _ LC.out) (none_ _) ?_)
    | (refine wpList_store_row rfl 23 (.tmp 8) (.tmp 16) rfl (w1.heap.size + 1) (ncells WK) rfl rfl 23 Z A2.out (i23 LW.out) (ZL.out _ LW.out) (none_ _) ?_))
  have f7 := F7.out
  have f8 := F8.out
  have g1 := G1.out
  have g2 := G2.out
  have g3 := G3.out
  have hb := HB.out
  have hg7 := HG7.out
  clear F7 F8 G1 G2 G3 HB A1 A2 HG7
  generalize (((w1.alloc (.cells Z 23)).alloc (.cells Z 23)).setRow w1.heap.size (ncells CK)).setRow (w1.heap.size + 1) (ncells WK) = w2 at f7 f8 g1 g2 g3 hb ⊢
  generalize w1.heap.size = g7 at f7 f8 hg7 ⊢
  have F7 := Lib.hid f7
  have F8 := Lib.hid f8
  have G1 := Lib.hid g1
  have G2 := Lib.hid g2
  have G3 := Lib.hid g3
  have HB := Lib.hid hb
  have HG7 := Lib.hid hg7
  clear f7 f8 g1 g2 g3 hb hg7
  refine wp_region_held_drew (S := fun W => Below w2.heap.size w2 W) (by kernel_rfl) ((Below.refl _ _).drew) (fun hS => ?_)
  have hb0 : Below w2.heap.size w2 w2.drew := (Below.refl _ _).drew
  clear hb0 
  generalize w2.drew = Wbs at hS  ⊢
  refine' wpAnyH_take (i := 0) ?h1x0b ?hsx0b ?hfx0b ?hrx0b ?hQx0b (yieldsIf_load_at ?hwx0b 23 (.tmp 8) ?hopx0b (g7 + 1) 0 rfl (ncells WK) _ (fun W hW => range_row ((hW.block _ (blk_lt F8.out)).trans F8.out)) Tryz.underlying23 rfl ?hix0b) hS ?restx0b
  case h1x0b => (simp only [List.getElem?_toArray, List.getElem?_cons_zero]; rfl)
  case hopx0b => rfl
  case hsx0b | hfx0b | hrx0b => kernel_rfl
  case hQx0b => exact fun _ _ _ h => h
  case hwx0b => rfl
  case hix0b => exact (i23 LW.out)
  simp only [Act.put, List.setIfInBounds_toArray, List.set_cons_succ, List.set_cons_zero]
  refine' wpAnyH_take (i := 1) ?h1x1b ?hsx1b ?hfx1b ?hrx1b ?hQx1b (Or.inl ⟨?hwx1b, ?hyx1b⟩) hS ?restx1b
  case h1x1b => (simp only [List.getElem?_toArray, List.getElem?_cons_succ, List.getElem?_cons_zero]; rfl)
  case hsx1b | hfx1b | hrx1b => kernel_rfl
  case hQx1b => exact fun _ _ _ h => h
  case hwx1b => rfl
  case hyx1b =>
    intro W hW
    go_simp
    try with_reducible rfl
  simp only [Act.put, List.setIfInBounds_toArray, List.set_cons_succ, List.set_cons_zero]
  refine wpAnyH_ready (rs := [2]) (by kernel_rfl) (by simp) ?_
  refine' (AllReadyH.cons ?hoc2b (fun K hK => ?stc2b) AllReadyH.nil)
  case hoc2b => (simp only [List.getElem?_toArray, List.getElem?_cons_succ, List.getElem?_cons_zero]; rfl)
  go_simp
  refine (WP.out Wbs _ ((hS.block _ (blk_lt G1.out)).trans G1.out)).mono ?_
  rintro e Wbx2 ⟨qx, cx, rfl, hsp, hb⟩
  have SPX := Lib.hid hsp
  clear hsp
  go_wp2_with fail
  refine hK.out _ _ (hS.trans (hb.mono hS.size)) (fun hHeld => ?_)
  clear hK K
  try simp only [Act.put, List.setIfInBounds_toArray, List.set_cons_succ, List.set_cons_zero]
  clear hS
  have hS := hHeld
  clear hHeld
  clear hb
  refine' wpAnyH_take (i := 3) ?h1x3bx2 ?hsx3bx2 ?hfx3bx2 ?hrx3bx2 ?hQx3bx2 (Or.inl ⟨?hwx3bx2, ?hyx3bx2⟩) hS ?restx3bx2
  case h1x3bx2 => (simp only [List.getElem?_toArray, List.getElem?_cons_succ, List.getElem?_cons_zero]; rfl)
  case hsx3bx2 | hfx3bx2 | hrx3bx2 => kernel_rfl
  case hQx3bx2 => exact fun _ _ _ h => h
  case hwx3bx2 => rfl
  case hyx3bx2 =>
    intro W hW
    go_simp
    try with_reducible rfl
  simp only [Act.put, List.setIfInBounds_toArray, List.set_cons_succ, List.set_cons_zero]
  refine' wpAnyH_take (i := 4) ?h1x4bx2 ?hsx4bx2 ?hfx4bx2 ?hrx4bx2 ?hQx4bx2 (Or.inl ⟨?hwx4bx2, ?hyx4bx2⟩) hS ?restx4bx2
  case h1x4bx2 => (simp only [List.getElem?_toArray, List.getElem?_cons_succ, List.getElem?_cons_zero]; rfl)
  case hsx4bx2 | hfx4bx2 | hrx4bx2 => kernel_rfl
  case hQx4bx2 => exact fun _ _ _ h => h
  case hwx4bx2 => rfl
  case hyx4bx2 =>
    intro W hW
    go_simp
    try with_reducible rfl
  simp only [Act.put, List.setIfInBounds_toArray, List.set_cons_succ, List.set_cons_zero]
  refine' wpAnyH_take (i := 5) ?h1x5bx2 ?hsx5bx2 ?hfx5bx2 ?hrx5bx2 ?hQx5bx2 (Or.inl ⟨?hwx5bx2, ?hyx5bx2⟩) hS ?restx5bx2
  case h1x5bx2 => (simp only [List.getElem?_toArray, List.getElem?_cons_succ, List.getElem?_cons_zero]; rfl)
  case hsx5bx2 | hfx5bx2 | hrx5bx2 => kernel_rfl
  case hQx5bx2 => exact fun _ _ _ h => h
  case hwx5bx2 => rfl
  case hyx5bx2 =>
    intro W hW
    go_simp
    try with_reducible rfl
  simp only [Act.put, List.setIfInBounds_toArray, List.set_cons_succ, List.set_cons_zero]
  refine' wpAnyH_take (i := 6) ?h1x6bx2 ?hsx6bx2 ?hfx6bx2 ?hrx6bx2 ?hQx6bx2 (Or.inl ⟨?hwx6bx2, ?hyx6bx2⟩) hS ?restx6bx2
  case h1x6bx2 => (simp only [List.getElem?_toArray, List.getElem?_cons_succ, List.getElem?_cons_zero]; rfl)
  case hsx6bx2 | hfx6bx2 | hrx6bx2 => kernel_rfl
  case hQx6bx2 => exact fun _ _ _ h => h
  case hwx6bx2 => rfl
  case hyx6bx2 =>
    intro W hW
    go_simp
    try with_reducible rfl
  simp only [Act.put, List.setIfInBounds_toArray, List.set_cons_succ, List.set_cons_zero]
  refine' wpAnyH_take (i := 7) ?h1x7bx2 ?hsx7bx2 ?hfx7bx2 ?hrx7bx2 ?hQx7bx2 (Or.inl ⟨?hwx7bx2, ?hyx7bx2⟩) hS ?restx7bx2
  case h1x7bx2 => (simp only [List.getElem?_toArray, List.getElem?_cons_succ, List.getElem?_cons_zero]; rfl)
  case hsx7bx2 | hfx7bx2 | hrx7bx2 => kernel_rfl
  case hQx7bx2 => exact fun _ _ _ h => h
  case hwx7bx2 => rfl
  case hyx7bx2 =>
    intro W hW
    go_simp
    try with_reducible rfl
  simp only [Act.put, List.setIfInBounds_toArray, List.set_cons_succ, List.set_cons_zero]
  refine wpAnyH_done (by kernel_rfl) ?_ _
  go_wp2_with fail
  obtain ⟨qb, qo, hqx, e1, e2, e3, e4⟩ := SPX.out.cells PNE.out
  clear e1 e2 e3 e4
  subst hqx
  have SP := SPX
  have G2 := Lib.hid ((hS.block _ (blk_lt G2.out)).trans G2.out)
  have G3 := Lib.hid ((hS.block _ (blk_lt G3.out)).trans G3.out)
  have F7 := Lib.hid ((hS.block _ (blk_lt F7.out)).trans F7.out)
  have HB := Lib.hid (HB.out.trans (hS.mono HB.out.size))
  have F3 := G3
  have a39 := at39
  clear G3 hS SPX
  refine wp_region_held_drew (S := fun W => Below w.heap.size w W ∧ W.heap[(w.heap.size + 1 + 1)]? = some (.cells (ncells salt) 22 (0, 0)) ∧ W.heap[g7]? = some (.cells (ncells CK) 23 (0, 0))) (by kernel_rfl) (⟨HB.out.drew, G2.out, F7.out⟩) (fun hS => ?_)
  have hb0 : Below Wbx2.heap.size Wbx2 Wbx2.drew := (Below.refl _ _).drew
  have qF3 := (hb0.block _ (blk_lt F3.out)).trans F3.out
  have qSP := SP.out.below hb0
  clear hb0 F3 SP
  generalize Wbx2.drew = Wcs at hS qF3 qSP ⊢
  have F3 := Lib.hid qF3
  have SP := Lib.hid qSP
  clear qF3 qSP
  refine' wpAnyH_take (i := 0) ?h1x0c ?hsx0c ?hfx0c ?hrx0c ?hQx0c (yieldsIf_load_at ?hwx0c 22 (.tmp 5) ?hopx0c (w.heap.size + 1 + 1) 0 rfl (ncells salt) _ (fun W hW => range_row hW.2.1) Tryz.underlying22 rfl ?hix0c) hS ?restx0c
  case h1x0c => (simp only [List.getElem?_toArray, List.getElem?_cons_zero]; rfl)
  case hopx0c => rfl
  case hsx0c | hfx0c | hrx0c => kernel_rfl
  case hQx0c => exact fun _ _ _ h => h
  case hwx0c => rfl
  case hix0c => exact (i37 LS.out)
  simp only [Act.put, List.setIfInBounds_toArray, List.set_cons_succ, List.set_cons_zero]
  refine' wpAnyH_take (i := 1) ?h1x1c ?hsx1c ?hfx1c ?hrx1c ?hQx1c (yieldsIf_load_at ?hwx1c 23 (.tmp 7) ?hopx1c g7 0 rfl (ncells CK) _ (fun W hW => range_row hW.2.2) Tryz.underlying23 rfl ?hix1c) hS ?restx1c
  case h1x1c => (simp only [List.getElem?_toArray, List.getElem?_cons_succ, List.getElem?_cons_zero]; rfl)
  case hopx1c => rfl
  case hsx1c | hfx1c | hrx1c => kernel_rfl
  case hQx1c => exact fun _ _ _ h => h
  case hwx1c => rfl
  case hix1c => exact (i23 LC.out)
  simp only [Act.put, List.setIfInBounds_toArray, List.set_cons_succ, List.set_cons_zero]
  refine' wpAnyH_take (i := 2) ?h1x2c ?hsx2c ?hfx2c ?hrx2c ?hQx2c (Or.inl ⟨?hwx2c, ?hyx2c⟩) hS ?restx2c
  case h1x2c => (simp only [List.getElem?_toArray, List.getElem?_cons_succ, List.getElem?_cons_zero]; rfl)
  case hsx2c | hfx2c | hrx2c => kernel_rfl
  case hQx2c => exact fun _ _ _ h => h
  case hwx2c => rfl
  case hyx2c =>
    intro W hW
    go_simp
    try with_reducible rfl
  simp only [Act.put, List.setIfInBounds_toArray, List.set_cons_succ, List.set_cons_zero]
  refine' wpAnyH_take (i := 3) ?h1x3c ?hsx3c ?hfx3c ?hrx3c ?hQx3c (Or.inl ⟨?hwx3c, ?hyx3c⟩) hS ?restx3c
  case h1x3c => (simp only [List.getElem?_toArray, List.getElem?_cons_succ, List.getElem?_cons_zero]; rfl)
  case hsx3c | hfx3c | hrx3c => kernel_rfl
  case hQx3c => exact fun _ _ _ h => h
  case hwx3c => rfl
  case hyx3c =>
    intro W hW
    go_simp
    try with_reducible rfl
  simp only [Act.put, List.setIfInBounds_toArray, List.set_cons_succ, List.set_cons_zero]
  refine wpAnyH_ready (rs := [4]) (by kernel_rfl) (by simp) ?_
  refine' (AllReadyH.cons ?hoc4c (fun K hK => ?stc4c) AllReadyH.nil)
  case hoc4c => (simp only [List.getElem?_toArray, List.getElem?_cons_succ, List.getElem?_cons_zero]; rfl)
  refine step_load_at rfl 24 (.tmp 26) rfl qb qo rfl (ncells PP) _ (range_sees SP.out PNE.out) Tryz.underlying24 rfl (i39k LP.out) ?_
  refine hK.out _ _ hS (fun hHeld => ?_)
  clear hK K
  try simp only [Act.put, List.setIfInBounds_toArray, List.set_cons_succ, List.set_cons_zero]
  clear hS
  have hS := hHeld
  clear hHeld
  refine wpAnyH_ready (rs := [5]) (by kernel_rfl) (by simp) ?_
  refine' (AllReadyH.cons ?hoc5cx4 (fun K hK => ?stc5cx4) AllReadyH.nil)
  case hoc5cx4 => (simp only [List.getElem?_toArray, List.getElem?_cons_succ, List.getElem?_cons_zero]; rfl)
  refine step_build_run rfl 26 #[(0, .tmp 23), (1, .tmp 24), (2, .tmp 27)] rfl #[(0, .agg (ncells salt)), (1, .agg (ncells CK)), (2, .agg (ncells PP))] (by kernel_rfl) (BD.out _) ?_
  refine hK.out _ _ hS (fun hHeld => ?_)
  clear hK K
  try simp only [Act.put, List.setIfInBounds_toArray, List.set_cons_succ, List.set_cons_zero]
  clear hS
  have hS := hHeld
  clear hHeld
  refine wpAnyH_ready (rs := [6]) (by kernel_rfl) (by simp) ?_
  refine' (AllReadyH.cons ?hoc6cx4x5 (fun K hK => ?stc6cx4x5) AllReadyH.nil)
  case hoc6cx4x5 => (simp only [List.getElem?_toArray, List.getElem?_cons_succ, List.getElem?_cons_zero]; rfl)
  clear SP
  refine step_store_row rfl 26 (.tmp 6) (.tmp 28) rfl (w.heap.size + 1 + 1 + 1) (ncells J) rfl rfl 26 _ F3.out IJ.out ZJ.out (none_ _) ?_
  refine hK.out _ _ (⟨hS.1.trans (below_row _ _ (by omega)), by rw [setRow_other _ _ _ _ (show (w.heap.size + 1 + 1) ≠ (w.heap.size + 1 + 1 + 1) from (by omega))]; exact hS.2.1, by rw [setRow_other _ _ _ _ (show g7 ≠ (w.heap.size + 1 + 1 + 1) from (by have := HG7.out; omega))]; exact hS.2.2⟩) (fun hHeld => ?_)
  clear hK K
  simp only [Act.put]
  have qF3 := setRow_heap _ (w.heap.size + 1 + 1 + 1) _ (ncells J) _ _ F3.out
  clear hS
  have hS := hHeld
  clear hHeld
  clear F3
  generalize Wcs.setRow (w.heap.size + 1 + 1 + 1) (ncells J) = Wcx4x5x6 at *
  have F3 := Lib.hid qF3
  clear qF3
  refine wpAnyH_done (by kernel_rfl) ?_ _
  go_wp2_with fail
  refine bodyPost_ret (v := .agg (ncells J)) (results_cell_row Tryz.results8 _ _ (w.heap.size + 1 + 1 + 1) 26 _ (0, 0) _ rfl F3.out Tryz.underlying26 rfl IJ.out) rfl ⟨rfl, hS.1⟩
end Go.Proofs.YtpkeofioobmmoaaGreatDoor
