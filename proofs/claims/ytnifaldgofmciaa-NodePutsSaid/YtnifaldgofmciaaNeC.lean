/-
  Contract of node.Halve. Condition: the node reads as one, of no more than three hundred of each, with something for each key.
-/
import Derived.Test.YtnifaldgofmciaaNeB
namespace Go.Proofs.Ytnifaldgofmciaa
open Go.RowKit
theorem yieldsIf_load_at {P : Program} {ops : Array Oper} {S : World → Prop} {op : Oper} {a : Act} (hw : Region.wanted op (yielded ops a.tmps) = true) (ty : TypeId) (x : Operand) (ho : op.op = .load ty x)
    (b o : Nat) (hx : a.eval x = .pointer (some ⟨b, o, none⟩)) (cs : Array Value) (d : TypeDesc) (hS : ∀ w, S w → w.rangeAt b o cs.toList)
    (hu : P.underlying ty = some d) (hd : d.isRow = true) (hi : (P.info? ty).map (·.size) = some cs.size) : YieldsIf P ops S op (.agg cs) a :=
  yieldsIf_load_mid hw ty x ho b o hx cs.toList d hS hu hd (by rw [Array.length_toList]; exact hi)
theorem range_row {W : World} {g : Nat} {c : Array Value} {t : TypeId} {fr : Nat × Nat} (h : W.heap[g]? = some (.cells c t fr)) : W.rangeAt g 0 c.toList := fun j v hv => by
  rw [Nat.zero_add, cell_row h, ← hv]; simp
theorem results_two {P : Program} {fn : Func} {p q : Tmp} {ty : TypeId} (h : fn.results = #[.cell p ty, .cell q ty]) (tmps : Array Value) (w : World) (g k : Nat) (t t' : TypeId) (cs ds : Array Value) (fr fr' : Nat × Nat) (fs : Array Field)
    (hp : tmps.getD p undef = .pointer (some ⟨g, 0, none⟩)) (hq : tmps.getD q undef = .pointer (some ⟨k, 0, none⟩)) (hg : w.heap[g]? = some (.cells cs t fr)) (hk : w.heap[k]? = some (.cells ds t' fr'))
    (hu : P.underlying ty = some (.struct fs)) (hi : (P.info? ty).map (·.size) = some cs.size) (hj : (P.info? ty).map (·.size) = some ds.size) :
    (results fn tmps).run P w = .ok (.tuple #[.agg cs, .agg ds]) w := by
  have hp' : tmps[p]?.getD undef = .pointer (some ⟨g, 0, none⟩) := by simpa [Array.getD_eq_getD_getElem?] using hp
  have hq' : tmps[q]?.getD undef = .pointer (some ⟨k, 0, none⟩) := by simpa [Array.getD_eq_getD_getElem?] using hq
  simp [results, h, hp', hq', asAddr, run_loadVar_row w g t ty cs fr _ hg hu rfl hi, run_loadVar_row w k t' ty ds fr' _ hk hu rfl hj]
/-- The first half's number of keys. -/
def halfN (n : NV) : Nat := (n.ks.length + 1) / 2
def HalfP (w : World) (n : NV) (e : Ending) (w' : World) : Prop := ∃ A B, e = .returned (.tuple #[.agg A, .agg B]) ∧ ND w' (.agg A) (cutN n (halfN n) 9223372036854775807) ∧ ND w' (.agg B) (cutN n 0 (halfN n)) ∧ okA w.heap.size A ∧ okA w.heap.size B ∧ Below w.heap.size w w'
set_option maxRecDepth 100000 in
set_option maxHeartbeats 8000000 in
theorem halve (A : Array Value) (n : NV) (w : World) (hv : ND w (.agg A) n) (hA : okA 0 A) (hs : small n) (hw : wholeB n = true) : Calls Try.prog 20 #[.agg A] w (HalfP w n) := by
  have hz := z26
  obtain ⟨Z, hZ⟩ : ∃ Z : Array Value, Z = #[.bool false, .slice none 0 0, .slice none 0 0, .slice none 0 0] := ⟨_, rfl⟩
  rw [← hZ] at hz
  have Z4 : Hid (Z.size = 4) := by show _ = _; rw [hZ]; rfl
  clear hZ
  have IA := Lib.hid hA.info
  have WH : Hid (∀ W, ND W (.agg A) n → Calls Try.prog 37 #[.agg A] W fun e w' => e = .returned (.bool true) ∧ Below W.heap.size W w') := fun W h => by have := whole _ n W h; rw [hw] at this; exact this
  have WO : Hid (∀ W a b, ND W (.agg A) n → Calls Try.prog 38 #[.agg A, .int .i64 ((a : Nat) : Int), .int .i64 ((b : Nat) : Int)] W (NewN W (cutN n a b))) := fun W a b h => without A n a b W h hA hs
  obtain ⟨h, hh⟩ : ∃ h, h = halfN n := ⟨_, rfl⟩
  have A1 : Hid (∃ x1 c1, A[1]? = some (.slice x1 n.ks.length c1)) := by
    obtain ⟨K, V, Q, e, h1, _⟩ := hv
    obtain ⟨x, c, rfl⟩ := h1.len
    injection e with e
    rw [e]
    exact ⟨x, c, rfl⟩
  obtain ⟨x1, c1, a1⟩ := A1.out
  have AA1 := Lib.hid a1
  have hq : ((n.ks.length : Int) + 1) / 2 = (h : Int) := by rw [hh]; unfold halfN; omega
  have hl : (n.ks.length : Int) ≤ 300 := by have := hs.1; omega
  unfold HalfP
  rw [← hh]
  generalize n.ks.length = l at *
  obtain ⟨W1, hW1⟩ : ∃ W1, W1 = ((w.alloc (.cells A 26)).alloc (.cells Z 26)).alloc (.cells Z 26) := ⟨_, rfl⟩
  have b0 : Below w.heap.size w (w.alloc (.cells A 26)) := (Below.refl _ _).alloc (Nat.le_refl _) _
  have b1 : Below w.heap.size w ((w.alloc (.cells A 26)).alloc (.cells Z 26)) := b0.alloc (by simp) _
  have b2 : Below w.heap.size w W1 := by rw [hW1]; exact b1.alloc (by simp; omega) _
  have G0 : Hid (W1.heap[w.heap.size]? = some (.cells A 26 (0, 0))) := by show _ = _; rw [hW1, Below.heap_alloc _ _ _ (by simp; omega), Below.heap_alloc _ _ _ (by simp)]; exact heap_alloc_new w _
  have G1 : Hid (W1.heap[w.heap.size + 1]? = some (.cells Z 26 (0, 0))) := by
    show _ = _
    rw [hW1, Below.heap_alloc _ _ _ (by simp)]
    have := heap_alloc_new (w.alloc (.cells A 26)) (.cells Z 26)
    simpa using this
  have G2 : Hid (W1.heap[w.heap.size + 2]? = some (.cells Z 26 (0, 0))) := by
    show _ = _
    rw [hW1]
    have := heap_alloc_new ((w.alloc (.cells A 26)).alloc (.cells Z 26)) (.cells Z 26)
    simpa using this
  have NR := Lib.hid (hv.below b2)
  have B1 := Lib.hid b2
  have HW1 := Lib.hid hW1
  clear hW1 b0 b1 b2 hv hA hs hw a1 hh A1
  go_enter Try.func20, Try.ntmps20
  go_upto_region 1 with (fail)
  rw [← HW1.out]
  clear hz
  go_wp2_with (refine wpList_load_row rfl 26 (.tmp 1) rfl w.heap.size rfl 26 A (0, 0) _ G0.out Try.underlying26 rfl IA.out ?_)
  refine (WH.out _ NR.out).mono ?_
  rintro e w2 ⟨rfl, hb⟩
  have B1 := Lib.hid (B1.out.trans (hb.mono B1.out.size))
  have G0 := Lib.hid ((hb.block _ (blk_lt G0.out)).trans G0.out)
  have G1 := Lib.hid ((hb.block _ (blk_lt G1.out)).trans G1.out)
  have G2 := Lib.hid ((hb.block _ (blk_lt G2.out)).trans G2.out)
  have NR := Lib.hid (NR.out.below hb)
  clear hb
  have cc := (cell_row G0.out 1).trans AA1.out
  go_wp2_with fail
  clear cc
  refine wp_region_held_drew (S := fun W => Below w.heap.size w W ∧ W.heap[w.heap.size]? = some (.cells A 26 (0, 0))) (by kernel_rfl) (⟨B1.out.drew, G0.out⟩) (fun hS => ?_)
  have hb0 : Below w2.heap.size w2 w2.drew := (Below.refl _ _).drew
  have qNR := NR.out.below hb0
  have qG1 := (hb0.block _ (blk_lt G1.out)).trans G1.out
  have qG2 := (hb0.block _ (blk_lt G2.out)).trans G2.out
  clear hb0 NR G1 G2
  generalize w2.drew = Whs at hS qNR qG1 qG2 ⊢
  have NR := Lib.hid qNR
  have G1 := Lib.hid qG1
  have G2 := Lib.hid qG2
  clear qNR qG1 qG2
  refine' wpAnyH_take (i := 0) ?h1x0h ?hsx0h ?hfx0h ?hrx0h ?hQx0h (yieldsIf_load_at ?hwx0h 26 (.tmp 1) ?hopx0h w.heap.size 0 rfl A _ (fun W hW => range_row hW.2) Try.underlying26 rfl ?hix0h) hS ?restx0h
  case h1x0h => (simp only [List.getElem?_toArray, List.getElem?_cons_zero]; rfl)
  case hopx0h => rfl
  case hsx0h => kernel_rfl
  case hfx0h => kernel_rfl
  case hrx0h => kernel_rfl
  case hQx0h => exact fun _ _ _ h => h
  case hwx0h => rfl
  case hix0h => exact IA.out
  simp only [Act.put, List.setIfInBounds_toArray, List.set_cons_succ, List.set_cons_zero]
  refine' wpAnyH_take (i := 1) ?h1x1h ?hsx1h ?hfx1h ?hrx1h ?hQx1h (Or.inl ⟨?hwx1h, ?hyx1h⟩) hS ?restx1h
  case h1x1h => (simp only [List.getElem?_toArray, List.getElem?_cons_succ, List.getElem?_cons_zero]; rfl)
  case hsx1h => kernel_rfl
  case hfx1h => kernel_rfl
  case hrx1h => kernel_rfl
  case hQx1h => exact fun _ _ _ h => h
  case hwx1h => rfl
  case hyx1h =>
    intro W hW
    go_simp
    try with_reducible rfl
  simp only [Act.put, List.setIfInBounds_toArray, List.set_cons_succ, List.set_cons_zero]
  refine' wpAnyH_take (i := 3) ?h1x3h ?hsx3h ?hfx3h ?hrx3h ?hQx3h (yieldsIf_load_at ?hwx3h 26 (.tmp 1) ?hopx3h w.heap.size 0 rfl A _ (fun W hW => range_row hW.2) Try.underlying26 rfl ?hix3h) hS ?restx3h
  case h1x3h => (simp only [List.getElem?_toArray, List.getElem?_cons_succ, List.getElem?_cons_zero]; rfl)
  case hopx3h => rfl
  case hsx3h => kernel_rfl
  case hfx3h => kernel_rfl
  case hrx3h => kernel_rfl
  case hQx3h => exact fun _ _ _ h => h
  case hwx3h => rfl
  case hix3h => exact IA.out
  simp only [Act.put, List.setIfInBounds_toArray, List.set_cons_succ, List.set_cons_zero]
  refine' wpAnyH_take (i := 4) ?h1x4h ?hsx4h ?hfx4h ?hrx4h ?hQx4h (Or.inl ⟨?hwx4h, ?hyx4h⟩) hS ?restx4h
  case h1x4h => (simp only [List.getElem?_toArray, List.getElem?_cons_succ, List.getElem?_cons_zero]; rfl)
  case hsx4h => kernel_rfl
  case hfx4h => kernel_rfl
  case hrx4h => kernel_rfl
  case hQx4h => exact fun _ _ _ h => h
  case hwx4h => rfl
  case hyx4h =>
    intro W hW
    go_simp
    try with_reducible rfl
  simp only [Act.put, List.setIfInBounds_toArray, List.set_cons_succ, List.set_cons_zero]
  refine wpAnyH_ready (rs := [2]) (by kernel_rfl) (by simp) ?_
  refine' (AllReadyH.cons ?hoc2h (fun K hK => ?stc2h) AllReadyH.nil)
  case hoc2h => (simp only [List.getElem?_toArray, List.getElem?_cons_succ, List.getElem?_cons_zero]; rfl)
  have hg1 := blk_lt G2.out
  go_simp
  refine (WO.out Whs h 9223372036854775807 NR.out).mono ?_
  rintro e Whx2 ⟨XA, rfl, hn, hok, hb⟩
  have NR := Lib.hid (NR.out.below hb)
  have G1 := Lib.hid ((hb.block _ (blk_lt G1.out)).trans G1.out)
  have G2 := Lib.hid ((hb.block _ (blk_lt G2.out)).trans G2.out)
  have KA := Lib.hid (hok.le hg1)
  have NA := Lib.hid hn
  clear hok hn hg1
  go_wp2_with fail
  refine hK.out _ _ (⟨hS.1.trans (hb.mono hS.1.size), (hb.block _ (blk_lt hS.2)).trans hS.2⟩) (fun hHeld => ?_)
  clear hK K
  try simp only [Act.put, List.setIfInBounds_toArray, List.set_cons_succ, List.set_cons_zero]
  clear hS
  have hS := hHeld
  clear hHeld
  clear hb
  refine wpAnyH_ready (rs := [5]) (by kernel_rfl) (by simp) ?_
  refine' (AllReadyH.cons ?hoc5hx2 (fun K hK => ?stc5hx2) AllReadyH.nil)
  case hoc5hx2 => (simp only [List.getElem?_toArray, List.getElem?_cons_succ, List.getElem?_cons_zero]; rfl)
  have hg1 := blk_lt G2.out
  go_simp
  refine (WO.out Whx2 0 h NR.out).mono ?_
  rintro e Whx2x5 ⟨XB, rfl, hn, hok, hb⟩
  have NR := Lib.hid (NR.out.below hb)
  have G1 := Lib.hid ((hb.block _ (blk_lt G1.out)).trans G1.out)
  have G2 := Lib.hid ((hb.block _ (blk_lt G2.out)).trans G2.out)
  have NA := Lib.hid (NA.out.below hb)
  have KB := Lib.hid (hok.le hg1)
  have NB := Lib.hid hn
  clear hok hn hg1
  go_wp2_with fail
  refine hK.out _ _ (⟨hS.1.trans (hb.mono hS.1.size), (hb.block _ (blk_lt hS.2)).trans hS.2⟩) (fun hHeld => ?_)
  clear hK K
  try simp only [Act.put, List.setIfInBounds_toArray, List.set_cons_succ, List.set_cons_zero]
  clear hS
  have hS := hHeld
  clear hHeld
  clear hb
  refine wpAnyH_ready (rs := [6]) (by kernel_rfl) (by simp) ?_
  refine' (AllReadyH.cons ?hoc6hx2x5 (fun K hK => ?stc6hx2x5) AllReadyH.nil)
  case hoc6hx2x5 => (simp only [List.getElem?_toArray, List.getElem?_cons_succ, List.getElem?_cons_zero]; rfl)
  refine step_store_row rfl 26 (.tmp 2) (.tmp 17) rfl (w.heap.size + 1) XA rfl rfl 26 _ G1.out KA.out.info (by rw [Z4.out, KA.out.four]) KA.out.one ?_
  have q1 := setRow_heap Whx2x5 (w.heap.size + 1) _ XA 26 _ G1.out
  have q2 := (setRow_other Whx2x5 (w.heap.size + 1) (w.heap.size + 2) XA (by omega)).trans G2.out
  have nA := NA.out.setRow (cs := XA) KA.out (show w.heap.size + 1 < _ by omega)
  have nB := NB.out.setRow (cs := XA) KB.out (show w.heap.size + 1 < _ by omega)
  have hS2 := hS.1.trans (below_row (B := w.heap.size) Whx2x5 XA (show w.heap.size ≤ w.heap.size + 1 by omega))
  have hS3 := (setRow_other Whx2x5 (w.heap.size + 1) w.heap.size XA (by omega)).trans hS.2
  refine hK.out _ _ ⟨hS2, hS3⟩ (fun hHeld => ?_)
  clear hK K hS G1 G2 NA NB hS2 hS3
  simp only [Act.put]
  generalize Whx2x5.setRow (w.heap.size + 1) XA = wf1 at *
  have hS := hHeld
  clear hHeld
  have G1 := Lib.hid q1
  have G2 := Lib.hid q2
  have NA := Lib.hid nA
  have NB := Lib.hid nB
  clear q1 q2 nA nB
  refine wpAnyH_ready (rs := [7]) (by kernel_rfl) (by simp) ?_
  refine' (AllReadyH.cons ?hoc7hx2x5x6 (fun K hK => ?stc7hx2x5x6) AllReadyH.nil)
  case hoc7hx2x5x6 => (simp only [List.getElem?_toArray, List.getElem?_cons_succ, List.getElem?_cons_zero]; rfl)
  refine step_store_row rfl 26 (.tmp 3) (.tmp 20) rfl (w.heap.size + 2) XB rfl rfl 26 _ G2.out KB.out.info (by rw [Z4.out, KB.out.four]) KB.out.one ?_
  have q2 := setRow_heap wf1 (w.heap.size + 2) _ XB 26 _ G2.out
  have q1 := (setRow_other wf1 (w.heap.size + 2) (w.heap.size + 1) XB (by omega)).trans G1.out
  have nA := NA.out.setRow (cs := XB) KA.out (show w.heap.size + 2 < _ by omega)
  have nB := NB.out.setRow (cs := XB) KB.out (show w.heap.size + 2 < _ by omega)
  have hS2 := hS.1.trans (below_row (B := w.heap.size) wf1 XB (show w.heap.size ≤ w.heap.size + 2 by omega))
  have hS3 := (setRow_other wf1 (w.heap.size + 2) w.heap.size XB (by omega)).trans hS.2
  refine hK.out _ _ ⟨hS2, hS3⟩ (fun hHeld => ?_)
  clear hK K hS G1 G2 NA NB hS2 hS3
  simp only [Act.put]
  generalize wf1.setRow (w.heap.size + 2) XB = wf2 at *
  have hS := hHeld
  clear hHeld
  have G1 := Lib.hid q1
  have G2 := Lib.hid q2
  have NA := Lib.hid nA
  have NB := Lib.hid nB
  clear q1 q2 nA nB
  refine wpAnyH_done (by kernel_rfl) ?_ _
  try go_wp2_with fail
  exact bodyPost_ret (v := .tuple #[.agg XA, .agg XB]) (results_two Try.results20 _ _ (w.heap.size + 1) (w.heap.size + 2) 26 26 _ _ (0, 0) (0, 0) _ rfl rfl G1.out G2.out Try.underlying26 KA.out.info KB.out.info) rfl
    ⟨_, _, rfl, NA.out, NB.out, KA.out.le (by omega), KB.out.le (by omega), hS.1⟩
end Go.Proofs.Ytnifaldgofmciaa
