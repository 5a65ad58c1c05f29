/-
  Contracts of the functions that the statements of package super go through: a head and a register as the document's. Condition: the numbers fit their kinds.
-/
import Derived.Test.YtplffbpnjnbolaaSuH
namespace Go.Proofs.Ytplffbpnjnbolaa
open Go.RowKit
/-- The cells of the document's head, and register. -/
def dcells (g e : Int) (h : Bool) (s : Int) (v : Value) : Array Value := #[.int .u64 g, .int .u64 e, .bool h, .int .u32 s, v]
def qcells (v : Value) (g e k : Int) : Array Value := #[v, .int .u64 g, .int .u64 e, .int .u8 k]
set_option maxRecDepth 100000 in
theorem z37 (w : World) : (zeroValue 37).run Try.prog w = .ok (.agg (dcells 0 0 false 0 (.slice none 0 0))) w := by kernel_rfl
set_option maxRecDepth 100000 in
theorem bld37 (w : World) : (Instr.build 37 #[]).run Try.prog w = .ok (.agg (dcells 0 0 false 0 (.slice none 0 0))) w := by kernel_rfl
set_option maxRecDepth 100000 in
theorem bld37c (g e : Int) (h : Bool) (s : Int) (x : Option Addr) (l c : Nat) (w : World) : (Instr.build 37 #[(0, .int .u64 g), (1, .int .u64 e), (2, .bool h), (3, .int .u32 s), (4, .slice x l c)]).run Try.prog w = .ok (.agg (dcells g e h s (.slice x l c))) w := by kernel_rfl
set_option maxRecDepth 100000 in
theorem z52 (w : World) : (zeroValue 52).run Try.prog w = .ok (.agg (qcells (.slice none 0 0) 0 0 0)) w := by kernel_rfl
set_option maxRecDepth 100000 in
theorem bld52 (w : World) : (Instr.build 52 #[]).run Try.prog w = .ok (.agg (qcells (.slice none 0 0) 0 0 0)) w := by kernel_rfl
set_option maxRecDepth 100000 in
theorem bld52c (g e k : Int) (x : Option Addr) (l c : Nat) (w : World) : (Instr.build 52 #[(0, .slice x l c), (1, .int .u64 g), (2, .int .u64 e), (3, .int .u8 k)]).run Try.prog w = .ok (.agg (qcells (.slice x l c) g e k)) w := by kernel_rfl
theorem i37 (g e : Int) (h : Bool) (s : Int) (v : Value) : (Try.prog.info? 37).map (·.size) = some (dcells g e h s v).size := by
  rw [show (dcells g e h s v).size = 5 from rfl]; kernel_rfl
theorem i52 (g e k : Int) (v : Value) : (Try.prog.info? 52).map (·.size) = some (qcells v g e k).size := by
  rw [show (qcells v g e k).size = 4 from rfl]; kernel_rfl
theorem one_dcells (g e : Int) (h : Bool) (s : Int) (x : Option Addr) (l c : Nat) : (dcells g e h s (.slice x l c)).all (·.oneCell') = true := by simp [dcells, Value.oneCell']
theorem one_qcells (g e k : Int) (x : Option Addr) (l c : Nat) : (qcells (.slice x l c) g e k).all (·.oneCell') = true := by simp [qcells, Value.oneCell']
/-- In a drawn region: a struct of known parts is built; a row is stored. -/
theorem step_build_run {ops : Array Oper} {o : Oper} {a : Act} {w : World} {K : Act → World → Prop} {Q : Exit → Act → World → Prop} {E : Prop} (hgd : o.guard = none) (t : TypeId) (parts : Array (Nat × Operand)) (ho : o.op = .build t parts)
    (vs : Array (Nat × Value)) (hv : parts.map (fun (i, x) => (i, a.eval x)) = vs) {v : Value} (hr : (Instr.build t vs).run Try.prog w = .ok v w) (hK : K (a.put o.dst v) w) : if Region.wanted o (yielded ops a.tmps) = true then Oper.wp Try.prog o a w K Q else E := by
  have hw : Region.wanted o (yielded ops a.tmps) = true := by simp [Region.wanted, hgd]
  rw [if_pos hw]
  subst hv
  unfold Oper.wp execOp
  simp only [ho, Sem.run_bind, Sem.run_pure]
  rw [hr]
  exact hK
theorem step_store_row {ops : Array Oper} {o : Oper} {a : Act} {w : World} {K : Act → World → Prop} {Q : Exit → Act → World → Prop} {E : Prop} (hgd : o.guard = none) (ty : TypeId) (x y : Operand) (ho : o.op = .store ty x y)
    (g : Nat) (cells : Array Value) (hx : a.eval x = .pointer (some ⟨g, 0, none⟩)) (hy : a.eval y = .agg cells) (t : TypeId) (old : Array Value) (hg : w.heap[g]? = some (.cells old t (0, 0))) (hi : (Try.prog.info? ty).map (·.size) = some cells.size)
    (hold : old.size = cells.size) (h1 : cells.all (·.oneCell') = true) (hK : K (a.put o.dst undef) (w.setRow g cells)) : if Region.wanted o (yielded ops a.tmps) = true then Oper.wp Try.prog o a w K Q else E := by
  have hw : Region.wanted o (yielded ops a.tmps) = true := by simp [Region.wanted, hgd]
  rw [if_pos hw]
  exact wp_store_row ty x y ho g cells hx hy t old hg hi hold h1 hK
theorem step_alloc_run {P : Program} {ops : Array Oper} {o : Oper} {a : Act} {w : World} {K : Act → World → Prop} {Q : Exit → Act → World → Prop} {E : Prop} (hgd : o.guard = none) (t : TypeId) (ho : o.op = .alloc t) {cs : Array Value} (hz : (zeroValue t).run P w = .ok (.agg cs) w)
    (hK : K (a.put o.dst (.pointer (some ⟨w.heap.size, 0, none⟩))) (w.alloc (.cells cs t))) : if Region.wanted o (yielded ops a.tmps) = true then Oper.wp P o a w K Q else E := by
  have hw : Region.wanted o (yielded ops a.tmps) = true := by simp [Region.wanted, hgd]
  rw [if_pos hw]
  unfold Oper.wp
  simp [execOp, ho, Instr.alloc, hz, Result.andThen, Oper.upon]
  exact hK
def AsHP (w : World) (H : Hd) (e : Ending) (w' : World) : Prop := ∃ x c, e = .returned (.agg (dcells H.g H.e H.h H.s (.slice x 32 c))) ∧ Sees w' (.slice x 32 c) H.z ∧ Below w.heap.size w w'
set_option maxRecDepth 100000 in
set_option maxHeartbeats 4000000 in
theorem asH (H : Hd) (hH : H.ok) (w : World) : Calls Try.prog 14 #[.agg (hcells H)] w (AsHP w H) := by
  have hz37 := z37
  obtain ⟨W2, hW2⟩ : ∃ W2, W2 = (w.alloc (.cells (hcells H) 29)).alloc (.cells (dcells 0 0 false 0 (.slice none 0 0)) 37) := ⟨_, rfl⟩
  have HW2 := Lib.hid hW2
  have BE : Hid (Below w.heap.size w W2) := by rw [hW2]; exact ((Below.refl _ _).alloc (Nat.le_refl _) _).alloc (by simp) _
  have G1 : Hid (W2.heap[w.heap.size]? = some (.cells (hcells H) 29 (0, 0))) := by show _ = _; rw [hW2, Below.heap_alloc _ _ _ (by simp)]; exact heap_alloc_new w _
  have G2 : Hid (W2.heap[w.heap.size + 1]? = some (.cells (dcells 0 0 false 0 (.slice none 0 0)) 37 (0, 0))) := by show _ = _; rw [hW2]; exact heap_alloc2_new w _ _
  have BC := Lib.hid (bld37c H.g H.e H.h H.s (some ⟨w.heap.size, 4, none⟩) 32 32)
  have I0 := Lib.hid (i37 H.g H.e H.h H.s (.slice (some ⟨w.heap.size, 4, none⟩) 32 32))
  have O0 := Lib.hid (one_dcells H.g H.e H.h H.s (some ⟨w.heap.size, 4, none⟩) 32 32)
  have Z0 : Hid ((dcells 0 0 false 0 (.slice none 0 0)).size = (dcells H.g H.e H.h H.s (.slice (some ⟨w.heap.size, 4, none⟩) 32 32)).size) := rfl
  have POST : Hid (∀ W, Below w.heap.size w W → W.heap[w.heap.size]? = some (.cells (hcells H) 29 (0, 0)) → AsHP w H (.returned (.agg (dcells H.g H.e H.h H.s (.slice (some ⟨w.heap.size, 4, none⟩) 32 32)))) W) := fun W hb hg => ⟨_, _, rfl, hsum hH.2.2.2.1 hH.2.2.2.2 hg, hb⟩
  generalize dcells H.g H.e H.h H.s (.slice (some ⟨w.heap.size, 4, none⟩) 32 32) = DC at *
  generalize dcells 0 0 false 0 (.slice none 0 0) = Z at *
  clear hW2 hH
  go_enter Try.func14, Try.ntmps14
  go_wp2_with fail
  rw [← HW2.out]
  refine wp_region_held_drew (S := fun W => Below w.heap.size w W ∧ W.heap[w.heap.size]? = some (.cells (hcells H) 29 (0, 0))) (by kernel_rfl) (⟨BE.out.drew, G1.out⟩) (fun hS => ?_)
  refine' wpAnyH_take (i := 0) ?h1x0a ?hsx0a ?hfx0a ?hrx0a ?hQx0a (Or.inl ⟨?hwx0a, ?hyx0a⟩) hS ?restx0a
  case h1x0a => (simp only [List.getElem?_toArray, List.getElem?_cons_zero]; rfl)
  case hsx0a => kernel_rfl
  case hfx0a => kernel_rfl
  case hrx0a => kernel_rfl
  case hQx0a => exact fun _ _ _ h => h
  case hwx0a => rfl
  case hyx0a =>
    intro W hW
    go_simp
    try with_reducible rfl
  simp only [Act.put, List.setIfInBounds_toArray, List.set_cons_succ, List.set_cons_zero]
  refine' wpAnyH_take (i := 1) ?h1x1a ?hsx1a ?hfx1a ?hrx1a ?hQx1a (Or.inl ⟨?hwx1a, ?hyx1a⟩) hS ?restx1a
  case h1x1a => (simp only [List.getElem?_toArray, List.getElem?_cons_succ, List.getElem?_cons_zero]; rfl)
  case hsx1a => kernel_rfl
  case hfx1a => kernel_rfl
  case hrx1a => kernel_rfl
  case hQx1a => exact fun _ _ _ h => h
  case hwx1a => rfl
  case hyx1a =>
    intro W hW
    have dd := hcell0 hW.2
    go_simp
    try with_reducible rfl
  simp only [Act.put, List.setIfInBounds_toArray, List.set_cons_succ, List.set_cons_zero]
  refine' wpAnyH_take (i := 2) ?h1x2a ?hsx2a ?hfx2a ?hrx2a ?hQx2a (Or.inl ⟨?hwx2a, ?hyx2a⟩) hS ?restx2a
  case h1x2a => (simp only [List.getElem?_toArray, List.getElem?_cons_succ, List.getElem?_cons_zero]; rfl)
  case hsx2a => kernel_rfl
  case hfx2a => kernel_rfl
  case hrx2a => kernel_rfl
  case hQx2a => exact fun _ _ _ h => h
  case hwx2a => rfl
  case hyx2a =>
    intro W hW
    go_simp
    try with_reducible rfl
  simp only [Act.put, List.setIfInBounds_toArray, List.set_cons_succ, List.set_cons_zero]
  refine' wpAnyH_take (i := 3) ?h1x3a ?hsx3a ?hfx3a ?hrx3a ?hQx3a (Or.inl ⟨?hwx3a, ?hyx3a⟩) hS ?restx3a
  case h1x3a => (simp only [List.getElem?_toArray, List.getElem?_cons_succ, List.getElem?_cons_zero]; rfl)
  case hsx3a => kernel_rfl
  case hfx3a => kernel_rfl
  case hrx3a => kernel_rfl
  case hQx3a => exact fun _ _ _ h => h
  case hwx3a => rfl
  case hyx3a =>
    intro W hW
    have dd := hcell1 hW.2
    go_simp
    try with_reducible rfl
  simp only [Act.put, List.setIfInBounds_toArray, List.set_cons_succ, List.set_cons_zero]
  refine' wpAnyH_take (i := 4) ?h1x4a ?hsx4a ?hfx4a ?hrx4a ?hQx4a (Or.inl ⟨?hwx4a, ?hyx4a⟩) hS ?restx4a
  case h1x4a => (simp only [List.getElem?_toArray, List.getElem?_cons_succ, List.getElem?_cons_zero]; rfl)
  case hsx4a => kernel_rfl
  case hfx4a => kernel_rfl
  case hrx4a => kernel_rfl
  case hQx4a => exact fun _ _ _ h => h
  case hwx4a => rfl
  case hyx4a =>
    intro W hW
    go_simp
    try with_reducible rfl
  simp only [Act.put, List.setIfInBounds_toArray, List.set_cons_succ, List.set_cons_zero]
  refine' wpAnyH_take (i := 5) ?h1x5a ?hsx5a ?hfx5a ?hrx5a ?hQx5a (Or.inl ⟨?hwx5a, ?hyx5a⟩) hS ?restx5a
  case h1x5a => (simp only [List.getElem?_toArray, List.getElem?_cons_succ, List.getElem?_cons_zero]; rfl)
  case hsx5a => kernel_rfl
  case hfx5a => kernel_rfl
  case hrx5a => kernel_rfl
  case hQx5a => exact fun _ _ _ h => h
  case hwx5a => rfl
  case hyx5a =>
    intro W hW
    have dd := hcell2 hW.2
    go_simp
    try with_reducible rfl
  simp only [Act.put, List.setIfInBounds_toArray, List.set_cons_succ, List.set_cons_zero]
  refine' wpAnyH_take (i := 6) ?h1x6a ?hsx6a ?hfx6a ?hrx6a ?hQx6a (Or.inl ⟨?hwx6a, ?hyx6a⟩) hS ?restx6a
  case h1x6a => (simp only [List.getElem?_toArray, List.getElem?_cons_succ, List.getElem?_cons_zero]; rfl)
  case hsx6a => kernel_rfl
  case hfx6a => kernel_rfl
  case hrx6a => kernel_rfl
  case hQx6a => exact fun _ _ _ h => h
  case hwx6a => rfl
  case hyx6a =>
    intro W hW
    go_simp
    try with_reducible rfl
  simp only [Act.put, List.setIfInBounds_toArray, List.set_cons_succ, List.set_cons_zero]
  refine' wpAnyH_take (i := 7) ?h1x7a ?hsx7a ?hfx7a ?hrx7a ?hQx7a (Or.inl ⟨?hwx7a, ?hyx7a⟩) hS ?restx7a
  case h1x7a => (simp only [List.getElem?_toArray, List.getElem?_cons_succ, List.getElem?_cons_zero]; rfl)
  case hsx7a => kernel_rfl
  case hfx7a => kernel_rfl
  case hrx7a => kernel_rfl
  case hQx7a => exact fun _ _ _ h => h
  case hwx7a => rfl
  case hyx7a =>
    intro W hW
    go_simp
    try with_reducible rfl
  simp only [Act.put, List.setIfInBounds_toArray, List.set_cons_succ, List.set_cons_zero]
  refine' wpAnyH_take (i := 8) ?h1x8a ?hsx8a ?hfx8a ?hrx8a ?hQx8a (Or.inl ⟨?hwx8a, ?hyx8a⟩) hS ?restx8a
  case h1x8a => (simp only [List.getElem?_toArray, List.getElem?_cons_succ, List.getElem?_cons_zero]; rfl)
  case hsx8a => kernel_rfl
  case hfx8a => kernel_rfl
  case hrx8a => kernel_rfl
  case hQx8a => exact fun _ _ _ h => h
  case hwx8a => rfl
  case hyx8a =>
    intro W hW
    have dd := hcell3 hW.2
    go_simp
    try with_reducible rfl
  simp only [Act.put, List.setIfInBounds_toArray, List.set_cons_succ, List.set_cons_zero]
  refine' wpAnyH_take (i := 9) ?h1x9a ?hsx9a ?hfx9a ?hrx9a ?hQx9a (Or.inl ⟨?hwx9a, ?hyx9a⟩) hS ?restx9a
  case h1x9a => (simp only [List.getElem?_toArray, List.getElem?_cons_succ, List.getElem?_cons_zero]; rfl)
  case hsx9a => kernel_rfl
  case hfx9a => kernel_rfl
  case hrx9a => kernel_rfl
  case hQx9a => exact fun _ _ _ h => h
  case hwx9a => rfl
  case hyx9a =>
    intro W hW
    go_simp
    try with_reducible rfl
  simp only [Act.put, List.setIfInBounds_toArray, List.set_cons_succ, List.set_cons_zero]
  refine' wpAnyH_take (i := 10) ?h1x10a ?hsx10a ?hfx10a ?hrx10a ?hQx10a (Or.inl ⟨?hwx10a, ?hyx10a⟩) hS ?restx10a
  case h1x10a => (simp only [List.getElem?_toArray, List.getElem?_cons_succ, List.getElem?_cons_zero]; rfl)
  case hsx10a => kernel_rfl
  case hfx10a => kernel_rfl
  case hrx10a => kernel_rfl
  case hQx10a => exact fun _ _ _ h => h
  case hwx10a => rfl
  case hyx10a =>
    intro W hW
    go_simp
    try with_reducible rfl
  simp only [Act.put, List.setIfInBounds_toArray, List.set_cons_succ, List.set_cons_zero]
  refine' wpAnyH_take (i := 11) ?h1x11a ?hsx11a ?hfx11a ?hrx11a ?hQx11a (Or.inl ⟨?hwx11a, ?hyx11a⟩) hS ?restx11a
  case h1x11a => (simp only [List.getElem?_toArray, List.getElem?_cons_succ, List.getElem?_cons_zero]; rfl)
  case hsx11a => kernel_rfl
  case hfx11a => kernel_rfl
  case hrx11a => kernel_rfl
  case hQx11a => exact fun _ _ _ h => h
  case hwx11a => rfl
  case hyx11a =>
    intro W hW
    go_simp
    try with_reducible rfl
  simp only [Act.put, List.setIfInBounds_toArray, List.set_cons_succ, List.set_cons_zero]
  refine wpAnyH_ready (rs := [12]) (by kernel_rfl) (by simp) ?_
  refine' AllReadyH.cons ?hoc12a (fun K hK => ?stc12a) AllReadyH.nil
  case hoc12a => (simp only [List.getElem?_toArray, List.getElem?_cons_succ, List.getElem?_cons_zero]; rfl)
  refine step_build_run rfl 37 #[(0, .tmp 4), (1, .tmp 6), (2, .tmp 8), (3, .tmp 11), (4, .tmp 14)] rfl #[(0, .int .u64 H.g), (1, .int .u64 H.e), (2, .bool H.h), (3, .int .u32 H.s), (4, .slice (some ⟨w.heap.size, 4, none⟩) 32 32)] (by kernel_rfl) (BC.out _) ?_
  refine hK.out _ _ hS (fun hHeld => ?_)
  clear hK K hHeld
  try simp only [Act.put, List.setIfInBounds_toArray, List.set_cons_succ, List.set_cons_zero]
  refine wpAnyH_ready (rs := [13]) (by kernel_rfl) (by simp) ?_
  refine' AllReadyH.cons ?hoc13a (fun K hK => ?stc13a) AllReadyH.nil
  case hoc13a => (simp only [List.getElem?_toArray, List.getElem?_cons_succ, List.getElem?_cons_zero]; rfl)
  refine step_store_row rfl 37 (.tmp 2) (.tmp 15) rfl (w.heap.size + 1) DC rfl rfl 37 Z (show W2.drew.heap[w.heap.size + 1]? = _ from G2.out) I0.out Z0.out O0.out ?_
  refine hK.out _ _ ⟨hS.1.trans (below_row _ _ (by omega)), (setRow_other _ _ _ _ (by omega)).trans hS.2⟩ (fun hHeld => ?_)
  clear hK K
  simp only [Act.put]
  have GE : Hid ((W2.drew.setRow (w.heap.size + 1) DC).heap[w.heap.size + 1]? = some (.cells DC 37 (0, 0))) := setRow_heap _ _ _ _ _ _ (show W2.drew.heap[w.heap.size + 1]? = _ from G2.out)
  clear hS
  have hS := hHeld
  clear hHeld
  refine wpAnyH_done (by kernel_rfl) ?_ _
  go_wp2_with fail
  exact bodyPost_ret (v := .agg DC) (results_cell_row Try.results14 _ _ (w.heap.size + 1) 37 DC (0, 0) _ rfl GE.out Try.underlying37 rfl I0.out) rfl (POST.out _ hS.1 hS.2)
def AsGP (w : World) (R : Rg) (e : Ending) (w' : World) : Prop := ∃ x c, e = .returned (.agg (qcells (.slice x 32 c) R.g R.e R.k)) ∧ Sees w' (.slice x 32 c) R.z ∧ Below w.heap.size w w'
set_option maxRecDepth 100000 in
set_option maxHeartbeats 4000000 in
theorem asG (R : Rg) (hR : R.ok) (w : World) : Calls Try.prog 20 #[.agg (gcells R)] w (AsGP w R) := by
  have hz52 := z52
  have HL := Lib.hid hR.2.2.2.2
  obtain ⟨W2, hW2⟩ : ∃ W2, W2 = (w.alloc (.cells (gcells R) 46)).alloc (.cells (qcells (.slice none 0 0) 0 0 0) 52) := ⟨_, rfl⟩
  have HW2 := Lib.hid hW2
  have BE : Hid (Below w.heap.size w W2) := by rw [hW2]; exact ((Below.refl _ _).alloc (Nat.le_refl _) _).alloc (by simp) _
  have G1 : Hid (W2.heap[w.heap.size]? = some (.cells (gcells R) 46 (0, 0))) := by show _ = _; rw [hW2, Below.heap_alloc _ _ _ (by simp)]; exact heap_alloc_new w _
  have G2 : Hid (W2.heap[w.heap.size + 1]? = some (.cells (qcells (.slice none 0 0) 0 0 0) 52 (0, 0))) := by show _ = _; rw [hW2]; exact heap_alloc2_new w _ _
  have BC := Lib.hid (bld52c R.g R.e R.k (some ⟨w.heap.size, 0, none⟩) 32 32)
  have I0 := Lib.hid (i52 R.g R.e R.k (.slice (some ⟨w.heap.size, 0, none⟩) 32 32))
  have O0 := Lib.hid (one_qcells R.g R.e R.k (some ⟨w.heap.size, 0, none⟩) 32 32)
  have Z0 : Hid ((qcells (.slice none 0 0) 0 0 0).size = (qcells (.slice (some ⟨w.heap.size, 0, none⟩) 32 32) R.g R.e R.k).size) := rfl
  have POST : Hid (∀ W, Below w.heap.size w W → W.heap[w.heap.size]? = some (.cells (gcells R) 46 (0, 0)) → AsGP w R (.returned (.agg (qcells (.slice (some ⟨w.heap.size, 0, none⟩) 32 32) R.g R.e R.k))) W) := fun W hb hg => ⟨_, _, rfl, gsum hR.2.2.2.1 hR.2.2.2.2 hg, hb⟩
  generalize qcells (.slice (some ⟨w.heap.size, 0, none⟩) 32 32) R.g R.e R.k = DC at *
  generalize qcells (.slice none 0 0) 0 0 0 = Z at *
  clear hW2 hR
  go_enter Try.func20, Try.ntmps20
  go_wp2_with fail
  rw [← HW2.out]
  refine wp_region_held_drew (S := fun W => Below w.heap.size w W ∧ W.heap[w.heap.size]? = some (.cells (gcells R) 46 (0, 0))) (by kernel_rfl) (⟨BE.out.drew, G1.out⟩) (fun hS => ?_)
  refine' wpAnyH_take (i := 0) ?h1x0b ?hsx0b ?hfx0b ?hrx0b ?hQx0b (Or.inl ⟨?hwx0b, ?hyx0b⟩) hS ?restx0b
  case h1x0b => (simp only [List.getElem?_toArray, List.getElem?_cons_zero]; rfl)
  case hsx0b => kernel_rfl
  case hfx0b => kernel_rfl
  case hrx0b => kernel_rfl
  case hQx0b => exact fun _ _ _ h => h
  case hwx0b => rfl
  case hyx0b =>
    intro W hW
    go_simp
    try with_reducible rfl
  simp only [Act.put, List.setIfInBounds_toArray, List.set_cons_succ, List.set_cons_zero]
  refine' wpAnyH_take (i := 1) ?h1x1b ?hsx1b ?hfx1b ?hrx1b ?hQx1b (Or.inl ⟨?hwx1b, ?hyx1b⟩) hS ?restx1b
  case h1x1b => (simp only [List.getElem?_toArray, List.getElem?_cons_succ, List.getElem?_cons_zero]; rfl)
  case hsx1b => kernel_rfl
  case hfx1b => kernel_rfl
  case hrx1b => kernel_rfl
  case hQx1b => exact fun _ _ _ h => h
  case hwx1b => rfl
  case hyx1b =>
    intro W hW
    go_simp
    try with_reducible rfl
  simp only [Act.put, List.setIfInBounds_toArray, List.set_cons_succ, List.set_cons_zero]
  refine' wpAnyH_take (i := 2) ?h1x2b ?hsx2b ?hfx2b ?hrx2b ?hQx2b (Or.inl ⟨?hwx2b, ?hyx2b⟩) hS ?restx2b
  case h1x2b => (simp only [List.getElem?_toArray, List.getElem?_cons_succ, List.getElem?_cons_zero]; rfl)
  case hsx2b => kernel_rfl
  case hfx2b => kernel_rfl
  case hrx2b => kernel_rfl
  case hQx2b => exact fun _ _ _ h => h
  case hwx2b => rfl
  case hyx2b =>
    intro W hW
    go_simp
    try with_reducible rfl
  simp only [Act.put, List.setIfInBounds_toArray, List.set_cons_succ, List.set_cons_zero]
  refine' wpAnyH_take (i := 3) ?h1x3b ?hsx3b ?hfx3b ?hrx3b ?hQx3b (Or.inl ⟨?hwx3b, ?hyx3b⟩) hS ?restx3b
  case h1x3b => (simp only [List.getElem?_toArray, List.getElem?_cons_succ, List.getElem?_cons_zero]; rfl)
  case hsx3b => kernel_rfl
  case hfx3b => kernel_rfl
  case hrx3b => kernel_rfl
  case hQx3b => exact fun _ _ _ h => h
  case hwx3b => rfl
  case hyx3b =>
    intro W hW
    have dd := (gcell HL.out hW.2).1
    go_simp
    try with_reducible rfl
  simp only [Act.put, List.setIfInBounds_toArray, List.set_cons_succ, List.set_cons_zero]
  refine' wpAnyH_take (i := 4) ?h1x4b ?hsx4b ?hfx4b ?hrx4b ?hQx4b (Or.inl ⟨?hwx4b, ?hyx4b⟩) hS ?restx4b
  case h1x4b => (simp only [List.getElem?_toArray, List.getElem?_cons_succ, List.getElem?_cons_zero]; rfl)
  case hsx4b => kernel_rfl
  case hfx4b => kernel_rfl
  case hrx4b => kernel_rfl
  case hQx4b => exact fun _ _ _ h => h
  case hwx4b => rfl
  case hyx4b =>
    intro W hW
    go_simp
    try with_reducible rfl
  simp only [Act.put, List.setIfInBounds_toArray, List.set_cons_succ, List.set_cons_zero]
  refine' wpAnyH_take (i := 5) ?h1x5b ?hsx5b ?hfx5b ?hrx5b ?hQx5b (Or.inl ⟨?hwx5b, ?hyx5b⟩) hS ?restx5b
  case h1x5b => (simp only [List.getElem?_toArray, List.getElem?_cons_succ, List.getElem?_cons_zero]; rfl)
  case hsx5b => kernel_rfl
  case hfx5b => kernel_rfl
  case hrx5b => kernel_rfl
  case hQx5b => exact fun _ _ _ h => h
  case hwx5b => rfl
  case hyx5b =>
    intro W hW
    have dd := (gcell HL.out hW.2).2.1
    go_simp
    try with_reducible rfl
  simp only [Act.put, List.setIfInBounds_toArray, List.set_cons_succ, List.set_cons_zero]
  refine' wpAnyH_take (i := 6) ?h1x6b ?hsx6b ?hfx6b ?hrx6b ?hQx6b (Or.inl ⟨?hwx6b, ?hyx6b⟩) hS ?restx6b
  case h1x6b => (simp only [List.getElem?_toArray, List.getElem?_cons_succ, List.getElem?_cons_zero]; rfl)
  case hsx6b => kernel_rfl
  case hfx6b => kernel_rfl
  case hrx6b => kernel_rfl
  case hQx6b => exact fun _ _ _ h => h
  case hwx6b => rfl
  case hyx6b =>
    intro W hW
    go_simp
    try with_reducible rfl
  simp only [Act.put, List.setIfInBounds_toArray, List.set_cons_succ, List.set_cons_zero]
  refine' wpAnyH_take (i := 7) ?h1x7b ?hsx7b ?hfx7b ?hrx7b ?hQx7b (Or.inl ⟨?hwx7b, ?hyx7b⟩) hS ?restx7b
  case h1x7b => (simp only [List.getElem?_toArray, List.getElem?_cons_succ, List.getElem?_cons_zero]; rfl)
  case hsx7b => kernel_rfl
  case hfx7b => kernel_rfl
  case hrx7b => kernel_rfl
  case hQx7b => exact fun _ _ _ h => h
  case hwx7b => rfl
  case hyx7b =>
    intro W hW
    have dd := (gcell HL.out hW.2).2.2
    go_simp
    try with_reducible rfl
  simp only [Act.put, List.setIfInBounds_toArray, List.set_cons_succ, List.set_cons_zero]
  refine wpAnyH_ready (rs := [8]) (by kernel_rfl) (by simp) ?_
  refine' AllReadyH.cons ?hoc8b (fun K hK => ?stc8b) AllReadyH.nil
  case hoc8b => (simp only [List.getElem?_toArray, List.getElem?_cons_succ, List.getElem?_cons_zero]; rfl)
  refine step_build_run rfl 52 #[(0, .tmp 4), (1, .tmp 6), (2, .tmp 8), (3, .tmp 10)] rfl #[(0, .slice (some ⟨w.heap.size, 0, none⟩) 32 32), (1, .int .u64 R.g), (2, .int .u64 R.e), (3, .int .u8 R.k)] (by kernel_rfl) (BC.out _) ?_
  refine hK.out _ _ hS (fun hHeld => ?_)
  clear hK K hHeld
  try simp only [Act.put, List.setIfInBounds_toArray, List.set_cons_succ, List.set_cons_zero]
  refine wpAnyH_ready (rs := [9]) (by kernel_rfl) (by simp) ?_
  refine' AllReadyH.cons ?hoc9b (fun K hK => ?stc9b) AllReadyH.nil
  case hoc9b => (simp only [List.getElem?_toArray, List.getElem?_cons_succ, List.getElem?_cons_zero]; rfl)
  refine step_store_row rfl 52 (.tmp 2) (.tmp 11) rfl (w.heap.size + 1) DC rfl rfl 52 Z (show W2.drew.heap[w.heap.size + 1]? = _ from G2.out) I0.out Z0.out O0.out ?_
  refine hK.out _ _ ⟨hS.1.trans (below_row _ _ (by omega)), (setRow_other _ _ _ _ (by omega)).trans hS.2⟩ (fun hHeld => ?_)
  clear hK K
  simp only [Act.put]
  have GE : Hid ((W2.drew.setRow (w.heap.size + 1) DC).heap[w.heap.size + 1]? = some (.cells DC 52 (0, 0))) := setRow_heap _ _ _ _ _ _ (show W2.drew.heap[w.heap.size + 1]? = _ from G2.out)
  clear hS
  have hS := hHeld
  clear hHeld
  refine wpAnyH_done (by kernel_rfl) ?_ _
  go_wp2_with fail
  exact bodyPost_ret (v := .agg DC) (results_cell_row Try.results20 _ _ (w.heap.size + 1) 52 DC (0, 0) _ rfl GE.out Try.underlying52 rfl I0.out) rfl (POST.out _ hS.1 hS.2)
end Go.Proofs.Ytplffbpnjnbolaa
