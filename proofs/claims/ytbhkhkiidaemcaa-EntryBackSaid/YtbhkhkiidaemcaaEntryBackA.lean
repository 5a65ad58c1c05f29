/-
  For all counts, volumes, blocks, roots, tenants and values the law EntryBack of package casematelaw23 returns true: all go there and back, in one way alone. Condition: none.
-/
import Derived.Test.YtbhkhkiidaemcaaEntryBackB
namespace Go.Proofs.Ytbhkhkiidaemcaa.entryBack
open Go.ChangeShapes Go.WideShapes Go.ChangeAt Go.RowKit
def Ret (f : FuncId) (args : Array Value) (r : Value) : Prop := ∀ W : World, Calls Try.prog f args W fun e w' => e = .returned r ∧ Below W.heap.size W w'
def Iz (T : TypeId) (A : Array Value) : Prop := (Try.prog.info? T).map (·.size) = some A.size
def On (A : Array Value) : Prop := A.all (·.oneCell') = true
def WP (w : World) (e : Ending) (w' : World) : Prop := e = .returned (.bool true) ∧ Below w.heap.size w w'
set_option maxRecDepth 100000 in
set_option maxHeartbeats 16000000 in
theorem core (n : Int) (X7 X8 X9 X10 CV C15 C17 A1 A2 A3 A4 A5 A6 P1 P2 P3 P4 P5 P6 Z30 Z38 Z55 Z57 : Array Value) (f1 f2 f3 f4 f5 f6 i1 i2 i3 i4 i5 i6 : Int)
    (K15 : Hid (Ret 15 #[.int .u64 n] (.agg C15))) (K20 : Hid (Ret 20 #[.agg C15] (.tuple #[.int .u64 n, .int .i64 0]))) (K17 : Hid (Ret 17 #[.agg X8] (.agg C17))) (K22 : Hid (Ret 22 #[.agg C17] (.agg X8))) (EQ8 : Hid (Eqs 37 X8 X8)) (K16 : Hid (Ret 16 #[.agg X7] (.tuple #[.agg A1, .int .i64 f1]))) (K26 : Hid (Ret 26 #[.agg X9] (.tuple #[.agg A2, .int .i64 f2]))) (K27 : Hid (Ret 27 #[.agg X10] (.tuple #[.agg A3, .int .i64 f3]))) (R1 : Hid (Ret 21 #[.agg A1] (.tuple #[.agg P1, .int .i64 i1]))) (R2 : Hid (Ret 28 #[.agg A2] (.tuple #[.agg P2, .int .i64 i2]))) (R3 : Hid (Ret 29 #[.agg A3] (.tuple #[.agg P3, .int .i64 i3]))) (R4 : Hid (Ret 21 #[.agg CV] (.tuple #[.agg P4, .int .i64 i4]))) (R5 : Hid (Ret 28 #[.agg CV] (.tuple #[.agg P5, .int .i64 i5]))) (R6 : Hid (Ret 29 #[.agg CV] (.tuple #[.agg P6, .int .i64 i6]))) (K4 : Hid (Ret 16 #[.agg P4] (.tuple #[.agg A4, .int .i64 f4]))) (K5 : Hid (Ret 26 #[.agg P5] (.tuple #[.agg A5, .int .i64 f5]))) (K6 : Hid (Ret 27 #[.agg P6] (.tuple #[.agg A6, .int .i64 f6]))) (b1 : Hid (((f1 == 0) = true ∧ (i1 != 0) = false ∧ Eqs 30 P1 X7) ∨ (f1 == 0) = false)) (b2 : Hid (((f2 == 0) = true ∧ (i2 != 0) = false ∧ Eqs 55 P2 X9) ∨ (f2 == 0) = false)) (b3 : Hid (((f3 == 0) = true ∧ (i3 != 0) = false ∧ Eqs 57 P3 X10) ∨ (f3 == 0) = false)) (c4 : Hid ((i4 != 0) = true ∨ ((i4 != 0) = false ∧ Eqs 38 A4 CV))) (c5 : Hid ((i5 != 0) = true ∨ ((i5 != 0) = false ∧ Eqs 38 A5 CV))) (c6 : Hid ((i6 != 0) = true ∨ ((i6 != 0) = false ∧ Eqs 38 A6 CV))) (IX7 : Hid (Iz 30 X7)) (IX8 : Hid (Iz 37 X8)) (IX9 : Hid (Iz 55 X9)) (IX10 : Hid (Iz 57 X10)) (ICV : Hid (Iz 38 CV)) (IA1 : Hid (Iz 38 A1)) (SA1 : Hid (Z38.size = A1.size)) (OA1 : Hid (On A1)) (IA2 : Hid (Iz 38 A2)) (SA2 : Hid (Z38.size = A2.size)) (OA2 : Hid (On A2)) (IA3 : Hid (Iz 38 A3)) (SA3 : Hid (Z38.size = A3.size)) (OA3 : Hid (On A3)) (IP1 : Hid (Iz 30 P1)) (SP1 : Hid (Z30.size = P1.size)) (OP1 : Hid (On P1)) (IP2 : Hid (Iz 55 P2)) (SP2 : Hid (Z55.size = P2.size)) (OP2 : Hid (On P2)) (IP3 : Hid (Iz 57 P3)) (SP3 : Hid (Z57.size = P3.size)) (OP3 : Hid (On P3)) (IP4 : Hid (Iz 30 P4)) (SP4 : Hid (Z30.size = P4.size)) (OP4 : Hid (On P4)) (IP5 : Hid (Iz 55 P5)) (SP5 : Hid (Z55.size = P5.size)) (OP5 : Hid (On P5)) (IP6 : Hid (Iz 57 P6)) (SP6 : Hid (Z57.size = P6.size)) (OP6 : Hid (On P6)) (IA4 : Hid (Iz 38 A4)) (SA4 : Hid (Z38.size = A4.size)) (OA4 : Hid (On A4)) (IA5 : Hid (Iz 38 A5)) (SA5 : Hid (Z38.size = A5.size)) (OA5 : Hid (On A5)) (IA6 : Hid (Iz 38 A6)) (SA6 : Hid (Z38.size = A6.size)) (OA6 : Hid (On A6)) (zz30 : ∀ w : World, (zeroValue 30).run Try.prog w = .ok (.agg Z30) w) (zz38 : ∀ w : World, (zeroValue 38).run Try.prog w = .ok (.agg Z38) w) (zz55 : ∀ w : World, (zeroValue 55).run Try.prog w = .ok (.agg Z55) w) (zz57 : ∀ w : World, (zeroValue 57).run Try.prog w = .ok (.agg Z57) w) (w : World) :
    Calls Try.prog 6 #[.int .u64 n, .agg X7, .agg X8, .agg X9, .agg X10, .agg CV] w (WP w) := by
  obtain ⟨W0, hW0⟩ : ∃ W0, W0 = ((((w.alloc (.cells X7 30)).alloc (.cells X8 37)).alloc (.cells X9 55)).alloc (.cells X10 57)).alloc (.cells CV 38) := ⟨_, rfl⟩
  have BE : Hid (Below w.heap.size w W0) := by rw [hW0]; exact (((((Below.refl _ _).alloc (Nat.le_refl _) _).alloc (by simp) _).alloc (by simp <;> omega) _).alloc (by simp <;> omega) _).alloc (by simp <;> omega) _
  have G7 : Hid (W0.heap[w.heap.size]? = some (.cells X7 30 (0, 0))) := by
    show _ = _
    rw [hW0, Below.heap_alloc _ _ _ (by simp <;> omega), Below.heap_alloc _ _ _ (by simp <;> omega), Below.heap_alloc _ _ _ (by simp <;> omega), Below.heap_alloc _ _ _ (by simp)]; exact heap_alloc_new w _
  have G8 : Hid (W0.heap[w.heap.size + 1]? = some (.cells X8 37 (0, 0))) := by
    show _ = _
    rw [hW0, Below.heap_alloc _ _ _ (by simp <;> omega), Below.heap_alloc _ _ _ (by simp <;> omega), Below.heap_alloc _ _ _ (by simp <;> omega)]; exact heap_alloc2_new w _ _
  have G9 : Hid (W0.heap[w.heap.size + 1 + 1]? = some (.cells X9 55 (0, 0))) := by
    show _ = _
    rw [hW0, Below.heap_alloc _ _ _ (by simp <;> omega), Below.heap_alloc _ _ _ (by simp <;> omega)]
    have := heap_alloc_new ((w.alloc (.cells X7 30)).alloc (.cells X8 37)) (.cells X9 55)
    simpa using this
  have G10 : Hid (W0.heap[w.heap.size + 1 + 1 + 1]? = some (.cells X10 57 (0, 0))) := by
    show _ = _
    rw [hW0, Below.heap_alloc _ _ _ (by simp <;> omega)]
    have := heap_alloc_new (((w.alloc (.cells X7 30)).alloc (.cells X8 37)).alloc (.cells X9 55)) (.cells X10 57)
    simpa using this
  have G11 : Hid (W0.heap[w.heap.size + 1 + 1 + 1 + 1]? = some (.cells CV 38 (0, 0))) := by
    show _ = _
    rw [hW0]
    have := heap_alloc_new ((((w.alloc (.cells X7 30)).alloc (.cells X8 37)).alloc (.cells X9 55)).alloc (.cells X10 57)) (.cells CV 38)
    simpa using this
  have HW0 := Lib.hid hW0
  clear hW0
  go_enter Try.func6, Try.ntmps6
  go_upto_region 1 with (fail)
  rw [← HW0.out]
  go_wp2_with fail
  refine (K15.out _).mono ?_
  rintro e u1 ⟨rfl, hb⟩
  have G7' := Lib.hid ((hb.block _ (blk_lt G7.out)).trans G7.out)
  have G8' := Lib.hid ((hb.block _ (blk_lt G8.out)).trans G8.out)
  have G9' := Lib.hid ((hb.block _ (blk_lt G9.out)).trans G9.out)
  have G10' := Lib.hid ((hb.block _ (blk_lt G10.out)).trans G10.out)
  have G11' := Lib.hid ((hb.block _ (blk_lt G11.out)).trans G11.out)
  have BE' := Lib.hid (BE.out.trans (hb.mono BE.out.size))
  clear hb BE G7 G8 G9 G10 G11
  have G7 := Lib.hid G7'.out
  have G8 := Lib.hid G8'.out
  have G9 := Lib.hid G9'.out
  have G10 := Lib.hid G10'.out
  have G11 := Lib.hid G11'.out
  have BE := Lib.hid BE'.out
  clear BE' G7' G8' G9' G10' G11'
  go_wp2_with fail
  refine (K20.out _).mono ?_
  rintro e u2 ⟨rfl, hb⟩
  have G7' := Lib.hid ((hb.block _ (blk_lt G7.out)).trans G7.out)
  have G8' := Lib.hid ((hb.block _ (blk_lt G8.out)).trans G8.out)
  have G9' := Lib.hid ((hb.block _ (blk_lt G9.out)).trans G9.out)
  have G10' := Lib.hid ((hb.block _ (blk_lt G10.out)).trans G10.out)
  have G11' := Lib.hid ((hb.block _ (blk_lt G11.out)).trans G11.out)
  have BE' := Lib.hid (BE.out.trans (hb.mono BE.out.size))
  clear hb BE G7 G8 G9 G10 G11
  have G7 := Lib.hid G7'.out
  have G8 := Lib.hid G8'.out
  have G9 := Lib.hid G9'.out
  have G10 := Lib.hid G10'.out
  have G11 := Lib.hid G11'.out
  have BE := Lib.hid BE'.out
  clear BE' G7' G8' G9' G10' G11'
  go_upto_region 2 with (fail)
  refine wp_region_held_drew (S := fun W => Below w.heap.size w W ∧ W.heap[w.heap.size + 1]? = some (.cells X8 37 (0, 0))) (by kernel_rfl) (⟨BE.out.drew, G8.out⟩) (fun hS => ?_)
  have hb0 : Below u2.heap.size u2 u2.drew := (Below.refl _ _).drew
  have qG7 := (hb0.block _ (blk_lt G7.out)).trans G7.out
  have qG8 := (hb0.block _ (blk_lt G8.out)).trans G8.out
  have qG9 := (hb0.block _ (blk_lt G9.out)).trans G9.out
  have qG10 := (hb0.block _ (blk_lt G10.out)).trans G10.out
  have qG11 := (hb0.block _ (blk_lt G11.out)).trans G11.out
  have qBE := BE.out.trans (hb0.mono BE.out.size)
  clear hb0 G7 G8 G9 G10 G11 BE
  generalize u2.drew = Wbs at hS qG7 qG8 qG9 qG10 qG11 qBE ⊢
  have G7 := Lib.hid qG7
  have G8 := Lib.hid qG8
  have G9 := Lib.hid qG9
  have G10 := Lib.hid qG10
  have G11 := Lib.hid qG11
  have BE := Lib.hid qBE
  clear qG7 qG8 qG9 qG10 qG11 qBE
  refine' wpAnyH_take (i := 0) ?h1x0b ?hsx0b ?hfx0b ?hrx0b ?hQx0b (Or.inl ⟨?hwx0b, ?hyx0b⟩) hS ?restx0b
  case h1x0b => (simp only [List.getElem?_toArray, List.getElem?_cons_zero]; rfl)
  case hsx0b => kernel_rfl
  case hfx0b => kernel_rfl
  case hrx0b => kernel_rfl
  case hQx0b => exact fun _ _ _ h => h
  case hwx0b => rfl
  case hyx0b =>
    intro W hW
    go_simp
    try with_reducible rfl
  simp only [Act.put, List.setIfInBounds_toArray, List.set_cons_succ, List.set_cons_zero]
  refine' wpAnyH_take (i := 1) ?h1x1b ?hsx1b ?hfx1b ?hrx1b ?hQx1b (Or.inl ⟨?hwx1b, ?hyx1b⟩) hS ?restx1b
  case h1x1b => (simp only [List.getElem?_toArray, List.getElem?_cons_succ, List.getElem?_cons_zero]; rfl)
  case hsx1b => kernel_rfl
  case hfx1b => kernel_rfl
  case hrx1b => kernel_rfl
  case hQx1b => exact fun _ _ _ h => h
  case hwx1b => rfl
  case hyx1b =>
    intro W hW
    go_simp
    try with_reducible rfl
  simp only [Act.put, List.setIfInBounds_toArray, List.set_cons_succ, List.set_cons_zero]
  refine' wpAnyH_take (i := 2) ?h1x2b ?hsx2b ?hfx2b ?hrx2b ?hQx2b (Or.inl ⟨?hwx2b, ?hyx2b⟩) hS ?restx2b
  case h1x2b => (simp only [List.getElem?_toArray, List.getElem?_cons_succ, List.getElem?_cons_zero]; rfl)
  case hsx2b => kernel_rfl
  case hfx2b => kernel_rfl
  case hrx2b => kernel_rfl
  case hQx2b => exact fun _ _ _ h => h
  case hwx2b => rfl
  case hyx2b =>
    intro W hW
    go_simp
    try with_reducible rfl
  simp only [Act.put, List.setIfInBounds_toArray, List.set_cons_succ, List.set_cons_zero]
  refine' wpAnyH_take (i := 3) ?h1x3b ?hsx3b ?hfx3b ?hrx3b ?hQx3b (Or.inl ⟨?hwx3b, ?hyx3b⟩) hS ?restx3b
  case h1x3b => (simp only [List.getElem?_toArray, List.getElem?_cons_succ, List.getElem?_cons_zero]; rfl)
  case hsx3b => kernel_rfl
  case hfx3b => kernel_rfl
  case hrx3b => kernel_rfl
  case hQx3b => exact fun _ _ _ h => h
  case hwx3b => rfl
  case hyx3b =>
    intro W hW
    go_simp
    try with_reducible rfl
  simp only [Act.put, List.setIfInBounds_toArray, List.set_cons_succ, List.set_cons_zero]
  refine' wpAnyH_take (i := 4) ?h1x4b ?hsx4b ?hfx4b ?hrx4b ?hQx4b (Or.inl ⟨?hwx4b, ?hyx4b⟩) hS ?restx4b
  case h1x4b => (simp only [List.getElem?_toArray, List.getElem?_cons_succ, List.getElem?_cons_zero]; rfl)
  case hsx4b => kernel_rfl
  case hfx4b => kernel_rfl
  case hrx4b => kernel_rfl
  case hQx4b => exact fun _ _ _ h => h
  case hwx4b => rfl
  case hyx4b =>
    intro W hW
    go_simp
    try with_reducible rfl
  simp only [Act.put, List.setIfInBounds_toArray, List.set_cons_succ, List.set_cons_zero]
  refine' wpAnyH_take (i := 5) ?h1x5b ?hsx5b ?hfx5b ?hrx5b ?hQx5b (Or.inl ⟨?hwx5b, ?hyx5b⟩) hS ?restx5b
  case h1x5b => (simp only [List.getElem?_toArray, List.getElem?_cons_succ, List.getElem?_cons_zero]; rfl)
  case hsx5b => kernel_rfl
  case hfx5b => kernel_rfl
  case hrx5b => kernel_rfl
  case hQx5b => exact fun _ _ _ h => h
  case hwx5b => rfl
  case hyx5b =>
    intro W hW
    go_simp
    try with_reducible rfl
  simp only [Act.put, List.setIfInBounds_toArray, List.set_cons_succ, List.set_cons_zero]
  refine' wpAnyH_take (i := 6) ?h1x6b ?hsx6b ?hfx6b ?hrx6b ?hQx6b (Or.inl ⟨?hwx6b, ?hyx6b⟩) hS ?restx6b
  case h1x6b => (simp only [List.getElem?_toArray, List.getElem?_cons_succ, List.getElem?_cons_zero]; rfl)
  case hsx6b => kernel_rfl
  case hfx6b => kernel_rfl
  case hrx6b => kernel_rfl
  case hQx6b => exact fun _ _ _ h => h
  case hwx6b => rfl
  case hyx6b =>
    intro W hW
    go_simp
    try with_reducible rfl
  simp only [Act.put, List.setIfInBounds_toArray, List.set_cons_succ, List.set_cons_zero]
  refine' wpAnyH_take (i := 7) ?h1x7b ?hsx7b ?hfx7b ?hrx7b ?hQx7b (Or.inl ⟨?hwx7b, ?hyx7b⟩) hS ?restx7b
  case h1x7b => (simp only [List.getElem?_toArray, List.getElem?_cons_succ, List.getElem?_cons_zero]; rfl)
  case hsx7b => kernel_rfl
  case hfx7b => kernel_rfl
  case hrx7b => kernel_rfl
  case hQx7b => exact fun _ _ _ h => h
  case hwx7b => rfl
  case hyx7b =>
    intro W hW
    go_simp
    try with_reducible rfl
  simp only [Act.put, List.setIfInBounds_toArray, List.set_cons_succ, List.set_cons_zero]
  refine' wpAnyH_take (i := 8) ?h1x8b ?hsx8b ?hfx8b ?hrx8b ?hQx8b (yieldsIf_load_at ?hwx8b 37 (.tmp 8) ?hopx8b (w.heap.size + 1) 0 rfl X8 _ (fun W hW => range_row hW.2) Try.underlying37 rfl ?hix8b) hS ?restx8b
  case h1x8b => (simp only [List.getElem?_toArray, List.getElem?_cons_succ, List.getElem?_cons_zero]; rfl)
  case hopx8b => rfl
  case hsx8b => kernel_rfl
  case hfx8b => kernel_rfl
  case hrx8b => kernel_rfl
  case hQx8b => exact fun _ _ _ h => h
  case hwx8b => rfl
  case hix8b => exact IX8.out
  simp only [Act.put, List.setIfInBounds_toArray, List.set_cons_succ, List.set_cons_zero]
  refine' wpAnyH_take (i := 11) ?h1x11b ?hsx11b ?hfx11b ?hrx11b ?hQx11b (yieldsIf_load_at ?hwx11b 37 (.tmp 8) ?hopx11b (w.heap.size + 1) 0 rfl X8 _ (fun W hW => range_row hW.2) Try.underlying37 rfl ?hix11b) hS ?restx11b
  case h1x11b => (simp only [List.getElem?_toArray, List.getElem?_cons_succ, List.getElem?_cons_zero]; rfl)
  case hopx11b => rfl
  case hsx11b => kernel_rfl
  case hfx11b => kernel_rfl
  case hrx11b => kernel_rfl
  case hQx11b => exact fun _ _ _ h => h
  case hwx11b => rfl
  case hix11b => exact IX8.out
  simp only [Act.put, List.setIfInBounds_toArray, List.set_cons_succ, List.set_cons_zero]
  refine wpAnyH_ready (rs := [9]) (by kernel_rfl) (by simp) ?_
  refine' (AllReadyH.cons ?hoc9b (fun K hK => ?stc9b) AllReadyH.nil)
  case hoc9b => (simp only [List.getElem?_toArray, List.getElem?_cons_succ, List.getElem?_cons_zero]; rfl)
  go_simp
  refine (K17.out Wbs).mono ?_
  rintro e Wbx9 ⟨rfl, hb⟩
  have G7 := Lib.hid ((hb.block _ (blk_lt G7.out)).trans G7.out)
  have G8 := Lib.hid ((hb.block _ (blk_lt G8.out)).trans G8.out)
  have G9 := Lib.hid ((hb.block _ (blk_lt G9.out)).trans G9.out)
  have G10 := Lib.hid ((hb.block _ (blk_lt G10.out)).trans G10.out)
  have G11 := Lib.hid ((hb.block _ (blk_lt G11.out)).trans G11.out)
  have BE := Lib.hid (BE.out.trans (hb.mono BE.out.size))
  go_wp2_with fail
  refine hK.out _ _ (⟨hS.1.trans (hb.mono hS.1.size), (hb.block _ (blk_lt hS.2)).trans hS.2⟩) (fun hHeld => ?_)
  clear hK K
  try simp only [Act.put, List.setIfInBounds_toArray, List.set_cons_succ, List.set_cons_zero]
  clear hS
  have hS := hHeld
  clear hHeld
  clear hb
  refine wpAnyH_ready (rs := [10]) (by kernel_rfl) (by simp) ?_
  refine' (AllReadyH.cons ?hoc10bx9 (fun K hK => ?stc10bx9) AllReadyH.nil)
  case hoc10bx9 => (simp only [List.getElem?_toArray, List.getElem?_cons_succ, List.getElem?_cons_zero]; rfl)
  go_simp
  refine (K22.out Wbx9).mono ?_
  rintro e Wbx9x10 ⟨rfl, hb⟩
  have G7 := Lib.hid ((hb.block _ (blk_lt G7.out)).trans G7.out)
  have G8 := Lib.hid ((hb.block _ (blk_lt G8.out)).trans G8.out)
  have G9 := Lib.hid ((hb.block _ (blk_lt G9.out)).trans G9.out)
  have G10 := Lib.hid ((hb.block _ (blk_lt G10.out)).trans G10.out)
  have G11 := Lib.hid ((hb.block _ (blk_lt G11.out)).trans G11.out)
  have BE := Lib.hid (BE.out.trans (hb.mono BE.out.size))
  go_wp2_with fail
  refine hK.out _ _ (⟨hS.1.trans (hb.mono hS.1.size), (hb.block _ (blk_lt hS.2)).trans hS.2⟩) (fun hHeld => ?_)
  clear hK K
  try simp only [Act.put, List.setIfInBounds_toArray, List.set_cons_succ, List.set_cons_zero]
  clear hS
  have hS := hHeld
  clear hHeld
  clear hb
  refine' wpAnyH_take (i := 12) ?h1x12bx9x10 ?hsx12bx9x10 ?hfx12bx9x10 ?hrx12bx9x10 ?hQx12bx9x10 (Or.inl ⟨?hwx12bx9x10, ?hyx12bx9x10⟩) hS ?restx12bx9x10
  case h1x12bx9x10 => (simp only [List.getElem?_toArray, List.getElem?_cons_succ, List.getElem?_cons_zero]; rfl)
  case hsx12bx9x10 => kernel_rfl
  case hfx12bx9x10 => kernel_rfl
  case hrx12bx9x10 => kernel_rfl
  case hQx12bx9x10 => exact fun _ _ _ h => h
  case hwx12bx9x10 => rfl
  case hyx12bx9x10 =>
    intro W hW
    have dd := EQ8.out
    unfold Eqs at dd
    go_simp
    try with_reducible rfl
  simp only [Act.put, List.setIfInBounds_toArray, List.set_cons_succ, List.set_cons_zero]
  refine' wpAnyH_take (i := 13) ?h1x13bx9x10 ?hsx13bx9x10 ?hfx13bx9x10 ?hrx13bx9x10 ?hQx13bx9x10 (Or.inl ⟨?hwx13bx9x10, ?hyx13bx9x10⟩) hS ?restx13bx9x10
  case h1x13bx9x10 => (simp only [List.getElem?_toArray, List.getElem?_cons_succ, List.getElem?_cons_zero]; rfl)
  case hsx13bx9x10 => kernel_rfl
  case hfx13bx9x10 => kernel_rfl
  case hrx13bx9x10 => kernel_rfl
  case hQx13bx9x10 => exact fun _ _ _ h => h
  case hwx13bx9x10 => rfl
  case hyx13bx9x10 =>
    intro W hW
    go_simp
    try with_reducible rfl
  simp only [Act.put, List.setIfInBounds_toArray, List.set_cons_succ, List.set_cons_zero]
  refine wpAnyH_done (by kernel_rfl) ?_ _
  clear hS
  generalize Wbx9x10 = v2 at *
  go_upto_region 4 with (fail)
  clear K15 K20 K17 K22 EQ8
  obtain ⟨u3, rfl⟩ : ∃ x, v2 = x := ⟨_, rfl⟩
  go_wp2_with (refine wpList_load_row rfl 30 (.tmp 7) rfl (w.heap.size) rfl 30 X7 (0, 0) _ G7.out Try.underlying30 rfl IX7.out ?_)
  refine (K16.out _).mono ?_
  rintro e u4 ⟨rfl, hb⟩
  have G7' := Lib.hid ((hb.block _ (blk_lt G7.out)).trans G7.out)
  have G8' := Lib.hid ((hb.block _ (blk_lt G8.out)).trans G8.out)
  have G9' := Lib.hid ((hb.block _ (blk_lt G9.out)).trans G9.out)
  have G10' := Lib.hid ((hb.block _ (blk_lt G10.out)).trans G10.out)
  have G11' := Lib.hid ((hb.block _ (blk_lt G11.out)).trans G11.out)
  have BE' := Lib.hid (BE.out.trans (hb.mono BE.out.size))
  clear hb BE G7 G8 G9 G10 G11
  have G7 := Lib.hid G7'.out
  have G8 := Lib.hid G8'.out
  have G9 := Lib.hid G9'.out
  have G10 := Lib.hid G10'.out
  have G11 := Lib.hid G11'.out
  have BE := Lib.hid BE'.out
  clear BE' G7' G8' G9' G10' G11'
  have GN := Lib.hid (heap_alloc_new u4 (.cells Z38 38))
  have RN := Lib.hid (alloc_setRowT u4 Z38 A1 38 _ rfl)
  have hal : Below u4.heap.size u4 (u4.alloc (.cells A1 38)) := (Below.refl _ _).alloc (Nat.le_refl _) _
  have G15 := Lib.hid (heap_alloc_new u4 (.cells A1 38))
  have n15G7 := blk_lt G7.out
  have n15G8 := blk_lt G8.out
  have n15G9 := blk_lt G9.out
  have n15G10 := blk_lt G10.out
  have n15G11 := blk_lt G11.out
  have G7' := Lib.hid ((hal.block _ (blk_lt G7.out)).trans G7.out)
  have G8' := Lib.hid ((hal.block _ (blk_lt G8.out)).trans G8.out)
  have G9' := Lib.hid ((hal.block _ (blk_lt G9.out)).trans G9.out)
  have G10' := Lib.hid ((hal.block _ (blk_lt G10.out)).trans G10.out)
  have G11' := Lib.hid ((hal.block _ (blk_lt G11.out)).trans G11.out)
  have BE' := Lib.hid (BE.out.trans (hal.mono BE.out.size))
  clear hal BE G7 G8 G9 G10 G11
  have G7 := Lib.hid G7'.out
  have G8 := Lib.hid G8'.out
  have G9 := Lib.hid G9'.out
  have G10 := Lib.hid G10'.out
  have G11 := Lib.hid G11'.out
  have BE := Lib.hid BE'.out
  clear BE' G7' G8' G9' G10' G11'
  go_upto_region 5 with (refine wpList_store_row rfl 38 (.tmp 15) (.tmp 50) rfl u4.heap.size A1 rfl rfl 38 Z38 GN.out IA1.out SA1.out OA1.out ?_)
  rw [RN.out]
  generalize u4.alloc (.cells A1 38) = u5 at *
  generalize u4.heap.size = q15 at *
  clear GN RN
  go_wp2_with (refine wpList_load_row rfl 55 (.tmp 9) rfl (w.heap.size + 1 + 1) rfl 55 X9 (0, 0) _ G9.out Try.underlying55 rfl IX9.out ?_)
  refine (K26.out _).mono ?_
  rintro e u6 ⟨rfl, hb⟩
  have G7' := Lib.hid ((hb.block _ (blk_lt G7.out)).trans G7.out)
  have G8' := Lib.hid ((hb.block _ (blk_lt G8.out)).trans G8.out)
  have G9' := Lib.hid ((hb.block _ (blk_lt G9.out)).trans G9.out)
  have G10' := Lib.hid ((hb.block _ (blk_lt G10.out)).trans G10.out)
  have G11' := Lib.hid ((hb.block _ (blk_lt G11.out)).trans G11.out)
  have G15' := Lib.hid ((hb.block _ (blk_lt G15.out)).trans G15.out)
  have BE' := Lib.hid (BE.out.trans (hb.mono BE.out.size))
  clear hb BE G7 G8 G9 G10 G11 G15
  have G7 := Lib.hid G7'.out
  have G8 := Lib.hid G8'.out
  have G9 := Lib.hid G9'.out
  have G10 := Lib.hid G10'.out
  have G11 := Lib.hid G11'.out
  have G15 := Lib.hid G15'.out
  have BE := Lib.hid BE'.out
  clear BE' G7' G8' G9' G10' G11' G15'
  have GN := Lib.hid (heap_alloc_new u6 (.cells Z38 38))
  have RN := Lib.hid (alloc_setRowT u6 Z38 A2 38 _ rfl)
  have hal : Below u6.heap.size u6 (u6.alloc (.cells A2 38)) := (Below.refl _ _).alloc (Nat.le_refl _) _
  have G17 := Lib.hid (heap_alloc_new u6 (.cells A2 38))
  have n17G7 := blk_lt G7.out
  have n17G8 := blk_lt G8.out
  have n17G9 := blk_lt G9.out
  have n17G10 := blk_lt G10.out
  have n17G11 := blk_lt G11.out
  have n17G15 := blk_lt G15.out
  have G7' := Lib.hid ((hal.block _ (blk_lt G7.out)).trans G7.out)
  have G8' := Lib.hid ((hal.block _ (blk_lt G8.out)).trans G8.out)
  have G9' := Lib.hid ((hal.block _ (blk_lt G9.out)).trans G9.out)
  have G10' := Lib.hid ((hal.block _ (blk_lt G10.out)).trans G10.out)
  have G11' := Lib.hid ((hal.block _ (blk_lt G11.out)).trans G11.out)
  have G15' := Lib.hid ((hal.block _ (blk_lt G15.out)).trans G15.out)
  have BE' := Lib.hid (BE.out.trans (hal.mono BE.out.size))
  clear hal BE G7 G8 G9 G10 G11 G15
  have G7 := Lib.hid G7'.out
  have G8 := Lib.hid G8'.out
  have G9 := Lib.hid G9'.out
  have G10 := Lib.hid G10'.out
  have G11 := Lib.hid G11'.out
  have G15 := Lib.hid G15'.out
  have BE := Lib.hid BE'.out
  clear BE' G7' G8' G9' G10' G11' G15'
  go_upto_region 6 with (refine wpList_store_row rfl 38 (.tmp 17) (.tmp 55) rfl u6.heap.size A2 rfl rfl 38 Z38 GN.out IA2.out SA2.out OA2.out ?_)
  rw [RN.out]
  generalize u6.alloc (.cells A2 38) = u7 at *
  generalize u6.heap.size = q17 at *
  clear GN RN
  go_wp2_with (refine wpList_load_row rfl 57 (.tmp 10) rfl (w.heap.size + 1 + 1 + 1) rfl 57 X10 (0, 0) _ G10.out Try.underlying57 rfl IX10.out ?_)
  refine (K27.out _).mono ?_
  rintro e u8 ⟨rfl, hb⟩
  have G7' := Lib.hid ((hb.block _ (blk_lt G7.out)).trans G7.out)
  have G8' := Lib.hid ((hb.block _ (blk_lt G8.out)).trans G8.out)
  have G9' := Lib.hid ((hb.block _ (blk_lt G9.out)).trans G9.out)
  have G10' := Lib.hid ((hb.block _ (blk_lt G10.out)).trans G10.out)
  have G11' := Lib.hid ((hb.block _ (blk_lt G11.out)).trans G11.out)
  have G15' := Lib.hid ((hb.block _ (blk_lt G15.out)).trans G15.out)
  have G17' := Lib.hid ((hb.block _ (blk_lt G17.out)).trans G17.out)
  have BE' := Lib.hid (BE.out.trans (hb.mono BE.out.size))
  clear hb BE G7 G8 G9 G10 G11 G15 G17
  have G7 := Lib.hid G7'.out
  have G8 := Lib.hid G8'.out
  have G9 := Lib.hid G9'.out
  have G10 := Lib.hid G10'.out
  have G11 := Lib.hid G11'.out
  have G15 := Lib.hid G15'.out
  have G17 := Lib.hid G17'.out
  have BE := Lib.hid BE'.out
  clear BE' G7' G8' G9' G10' G11' G15' G17'
  have GN := Lib.hid (heap_alloc_new u8 (.cells Z38 38))
  have RN := Lib.hid (alloc_setRowT u8 Z38 A3 38 _ rfl)
  have hal : Below u8.heap.size u8 (u8.alloc (.cells A3 38)) := (Below.refl _ _).alloc (Nat.le_refl _) _
  have G19 := Lib.hid (heap_alloc_new u8 (.cells A3 38))
  have n19G7 := blk_lt G7.out
  have n19G8 := blk_lt G8.out
  have n19G9 := blk_lt G9.out
  have n19G10 := blk_lt G10.out
  have n19G11 := blk_lt G11.out
  have n19G15 := blk_lt G15.out
  have n19G17 := blk_lt G17.out
  have G7' := Lib.hid ((hal.block _ (blk_lt G7.out)).trans G7.out)
  have G8' := Lib.hid ((hal.block _ (blk_lt G8.out)).trans G8.out)
  have G9' := Lib.hid ((hal.block _ (blk_lt G9.out)).trans G9.out)
  have G10' := Lib.hid ((hal.block _ (blk_lt G10.out)).trans G10.out)
  have G11' := Lib.hid ((hal.block _ (blk_lt G11.out)).trans G11.out)
  have G15' := Lib.hid ((hal.block _ (blk_lt G15.out)).trans G15.out)
  have G17' := Lib.hid ((hal.block _ (blk_lt G17.out)).trans G17.out)
  have BE' := Lib.hid (BE.out.trans (hal.mono BE.out.size))
  clear hal BE G7 G8 G9 G10 G11 G15 G17
  have G7 := Lib.hid G7'.out
  have G8 := Lib.hid G8'.out
  have G9 := Lib.hid G9'.out
  have G10 := Lib.hid G10'.out
  have G11 := Lib.hid G11'.out
  have G15 := Lib.hid G15'.out
  have G17 := Lib.hid G17'.out
  have BE := Lib.hid BE'.out
  clear BE' G7' G8' G9' G10' G11' G15' G17'
  go_upto_region 7 with (refine wpList_store_row rfl 38 (.tmp 19) (.tmp 60) rfl u8.heap.size A3 rfl rfl 38 Z38 GN.out IA3.out SA3.out OA3.out ?_)
  rw [RN.out]
  generalize u8.alloc (.cells A3 38) = u9 at *
  generalize u8.heap.size = q19 at *
  clear GN RN
  go_wp2_with (refine wpList_load_row rfl 38 (.tmp 15) rfl (q15) rfl 38 A1 (0, 0) _ G15.out Try.underlying38 rfl IA1.out ?_)
  refine (R1.out _).mono ?_
  rintro e u10 ⟨rfl, hb⟩
  have G7' := Lib.hid ((hb.block _ (blk_lt G7.out)).trans G7.out)
  have G8' := Lib.hid ((hb.block _ (blk_lt G8.out)).trans G8.out)
  have G9' := Lib.hid ((hb.block _ (blk_lt G9.out)).trans G9.out)
  have G10' := Lib.hid ((hb.block _ (blk_lt G10.out)).trans G10.out)
  have G11' := Lib.hid ((hb.block _ (blk_lt G11.out)).trans G11.out)
  have G15' := Lib.hid ((hb.block _ (blk_lt G15.out)).trans G15.out)
  have G17' := Lib.hid ((hb.block _ (blk_lt G17.out)).trans G17.out)
  have G19' := Lib.hid ((hb.block _ (blk_lt G19.out)).trans G19.out)
  have BE' := Lib.hid (BE.out.trans (hb.mono BE.out.size))
  clear hb BE G7 G8 G9 G10 G11 G15 G17 G19
  have G7 := Lib.hid G7'.out
  have G8 := Lib.hid G8'.out
  have G9 := Lib.hid G9'.out
  have G10 := Lib.hid G10'.out
  have G11 := Lib.hid G11'.out
  have G15 := Lib.hid G15'.out
  have G17 := Lib.hid G17'.out
  have G19 := Lib.hid G19'.out
  have BE := Lib.hid BE'.out
  clear BE' G7' G8' G9' G10' G11' G15' G17' G19'
  have GN := Lib.hid (heap_alloc_new u10 (.cells Z30 30))
  have RN := Lib.hid (alloc_setRowT u10 Z30 P1 30 _ rfl)
  have hal : Below u10.heap.size u10 (u10.alloc (.cells P1 30)) := (Below.refl _ _).alloc (Nat.le_refl _) _
  have G21 := Lib.hid (heap_alloc_new u10 (.cells P1 30))
  have n21G7 := blk_lt G7.out
  have n21G8 := blk_lt G8.out
  have n21G9 := blk_lt G9.out
  have n21G10 := blk_lt G10.out
  have n21G11 := blk_lt G11.out
  have n21G15 := blk_lt G15.out
  have n21G17 := blk_lt G17.out
  have n21G19 := blk_lt G19.out
  have G7' := Lib.hid ((hal.block _ (blk_lt G7.out)).trans G7.out)
  have G8' := Lib.hid ((hal.block _ (blk_lt G8.out)).trans G8.out)
  have G9' := Lib.hid ((hal.block _ (blk_lt G9.out)).trans G9.out)
  have G10' := Lib.hid ((hal.block _ (blk_lt G10.out)).trans G10.out)
  have G11' := Lib.hid ((hal.block _ (blk_lt G11.out)).trans G11.out)
  have G15' := Lib.hid ((hal.block _ (blk_lt G15.out)).trans G15.out)
  have G17' := Lib.hid ((hal.block _ (blk_lt G17.out)).trans G17.out)
  have G19' := Lib.hid ((hal.block _ (blk_lt G19.out)).trans G19.out)
  have BE' := Lib.hid (BE.out.trans (hal.mono BE.out.size))
  clear hal BE G7 G8 G9 G10 G11 G15 G17 G19
  have G7 := Lib.hid G7'.out
  have G8 := Lib.hid G8'.out
  have G9 := Lib.hid G9'.out
  have G10 := Lib.hid G10'.out
  have G11 := Lib.hid G11'.out
  have G15 := Lib.hid G15'.out
  have G17 := Lib.hid G17'.out
  have G19 := Lib.hid G19'.out
  have BE := Lib.hid BE'.out
  clear BE' G7' G8' G9' G10' G11' G15' G17' G19'
  go_upto_region 8 with (refine wpList_store_row rfl 30 (.tmp 21) (.tmp 65) rfl u10.heap.size P1 rfl rfl 30 Z30 GN.out IP1.out SP1.out OP1.out ?_)
  rw [RN.out]
  generalize u10.alloc (.cells P1 30) = u11 at *
  generalize u10.heap.size = q21 at *
  clear GN RN
  go_wp2_with (refine wpList_load_row rfl 38 (.tmp 17) rfl (q17) rfl 38 A2 (0, 0) _ G17.out Try.underlying38 rfl IA2.out ?_)
  refine (R2.out _).mono ?_
  rintro e u12 ⟨rfl, hb⟩
  have G7' := Lib.hid ((hb.block _ (blk_lt G7.out)).trans G7.out)
  have G8' := Lib.hid ((hb.block _ (blk_lt G8.out)).trans G8.out)
  have G9' := Lib.hid ((hb.block _ (blk_lt G9.out)).trans G9.out)
  have G10' := Lib.hid ((hb.block _ (blk_lt G10.out)).trans G10.out)
  have G11' := Lib.hid ((hb.block _ (blk_lt G11.out)).trans G11.out)
  have G15' := Lib.hid ((hb.block _ (blk_lt G15.out)).trans G15.out)
  have G17' := Lib.hid ((hb.block _ (blk_lt G17.out)).trans G17.out)
  have G19' := Lib.hid ((hb.block _ (blk_lt G19.out)).trans G19.out)
  have G21' := Lib.hid ((hb.block _ (blk_lt G21.out)).trans G21.out)
  have BE' := Lib.hid (BE.out.trans (hb.mono BE.out.size))
  clear hb BE G7 G8 G9 G10 G11 G15 G17 G19 G21
  have G7 := Lib.hid G7'.out
  have G8 := Lib.hid G8'.out
  have G9 := Lib.hid G9'.out
  have G10 := Lib.hid G10'.out
  have G11 := Lib.hid G11'.out
  have G15 := Lib.hid G15'.out
  have G17 := Lib.hid G17'.out
  have G19 := Lib.hid G19'.out
  have G21 := Lib.hid G21'.out
  have BE := Lib.hid BE'.out
  clear BE' G7' G8' G9' G10' G11' G15' G17' G19' G21'
  have GN := Lib.hid (heap_alloc_new u12 (.cells Z55 55))
  have RN := Lib.hid (alloc_setRowT u12 Z55 P2 55 _ rfl)
  have hal : Below u12.heap.size u12 (u12.alloc (.cells P2 55)) := (Below.refl _ _).alloc (Nat.le_refl _) _
  have G23 := Lib.hid (heap_alloc_new u12 (.cells P2 55))
  have n23G7 := blk_lt G7.out
  have n23G8 := blk_lt G8.out
  have n23G9 := blk_lt G9.out
  have n23G10 := blk_lt G10.out
  have n23G11 := blk_lt G11.out
  have n23G15 := blk_lt G15.out
  have n23G17 := blk_lt G17.out
  have n23G19 := blk_lt G19.out
  have n23G21 := blk_lt G21.out
  have G7' := Lib.hid ((hal.block _ (blk_lt G7.out)).trans G7.out)
  have G8' := Lib.hid ((hal.block _ (blk_lt G8.out)).trans G8.out)
  have G9' := Lib.hid ((hal.block _ (blk_lt G9.out)).trans G9.out)
  have G10' := Lib.hid ((hal.block _ (blk_lt G10.out)).trans G10.out)
  have G11' := Lib.hid ((hal.block _ (blk_lt G11.out)).trans G11.out)
  have G15' := Lib.hid ((hal.block _ (blk_lt G15.out)).trans G15.out)
  have G17' := Lib.hid ((hal.block _ (blk_lt G17.out)).trans G17.out)
  have G19' := Lib.hid ((hal.block _ (blk_lt G19.out)).trans G19.out)
  have G21' := Lib.hid ((hal.block _ (blk_lt G21.out)).trans G21.out)
  have BE' := Lib.hid (BE.out.trans (hal.mono BE.out.size))
  clear hal BE G7 G8 G9 G10 G11 G15 G17 G19 G21
  have G7 := Lib.hid G7'.out
  have G8 := Lib.hid G8'.out
  have G9 := Lib.hid G9'.out
  have G10 := Lib.hid G10'.out
  have G11 := Lib.hid G11'.out
  have G15 := Lib.hid G15'.out
  have G17 := Lib.hid G17'.out
  have G19 := Lib.hid G19'.out
  have G21 := Lib.hid G21'.out
  have BE := Lib.hid BE'.out
  clear BE' G7' G8' G9' G10' G11' G15' G17' G19' G21'
  go_upto_region 9 with (refine wpList_store_row rfl 55 (.tmp 23) (.tmp 70) rfl u12.heap.size P2 rfl rfl 55 Z55 GN.out IP2.out SP2.out OP2.out ?_)
  rw [RN.out]
  generalize u12.alloc (.cells P2 55) = u13 at *
  generalize u12.heap.size = q23 at *
  clear GN RN
  go_wp2_with (refine wpList_load_row rfl 38 (.tmp 19) rfl (q19) rfl 38 A3 (0, 0) _ G19.out Try.underlying38 rfl IA3.out ?_)
  refine (R3.out _).mono ?_
  rintro e u14 ⟨rfl, hb⟩
  have G7' := Lib.hid ((hb.block _ (blk_lt G7.out)).trans G7.out)
  have G8' := Lib.hid ((hb.block _ (blk_lt G8.out)).trans G8.out)
  have G9' := Lib.hid ((hb.block _ (blk_lt G9.out)).trans G9.out)
  have G10' := Lib.hid ((hb.block _ (blk_lt G10.out)).trans G10.out)
  have G11' := Lib.hid ((hb.block _ (blk_lt G11.out)).trans G11.out)
  have G15' := Lib.hid ((hb.block _ (blk_lt G15.out)).trans G15.out)
  have G17' := Lib.hid ((hb.block _ (blk_lt G17.out)).trans G17.out)
  have G19' := Lib.hid ((hb.block _ (blk_lt G19.out)).trans G19.out)
  have G21' := Lib.hid ((hb.block _ (blk_lt G21.out)).trans G21.out)
  have G23' := Lib.hid ((hb.block _ (blk_lt G23.out)).trans G23.out)
  have BE' := Lib.hid (BE.out.trans (hb.mono BE.out.size))
  clear hb BE G7 G8 G9 G10 G11 G15 G17 G19 G21 G23
  have G7 := Lib.hid G7'.out
  have G8 := Lib.hid G8'.out
  have G9 := Lib.hid G9'.out
  have G10 := Lib.hid G10'.out
  have G11 := Lib.hid G11'.out
  have G15 := Lib.hid G15'.out
  have G17 := Lib.hid G17'.out
  have G19 := Lib.hid G19'.out
  have G21 := Lib.hid G21'.out
  have G23 := Lib.hid G23'.out
  have BE := Lib.hid BE'.out
  clear BE' G7' G8' G9' G10' G11' G15' G17' G19' G21' G23'
  have GN := Lib.hid (heap_alloc_new u14 (.cells Z57 57))
  have RN := Lib.hid (alloc_setRowT u14 Z57 P3 57 _ rfl)
  have hal : Below u14.heap.size u14 (u14.alloc (.cells P3 57)) := (Below.refl _ _).alloc (Nat.le_refl _) _
  have G25 := Lib.hid (heap_alloc_new u14 (.cells P3 57))
  have n25G7 := blk_lt G7.out
  have n25G8 := blk_lt G8.out
  have n25G9 := blk_lt G9.out
  have n25G10 := blk_lt G10.out
  have n25G11 := blk_lt G11.out
  have n25G15 := blk_lt G15.out
  have n25G17 := blk_lt G17.out
  have n25G19 := blk_lt G19.out
  have n25G21 := blk_lt G21.out
  have n25G23 := blk_lt G23.out
  have G7' := Lib.hid ((hal.block _ (blk_lt G7.out)).trans G7.out)
  have G8' := Lib.hid ((hal.block _ (blk_lt G8.out)).trans G8.out)
  have G9' := Lib.hid ((hal.block _ (blk_lt G9.out)).trans G9.out)
  have G10' := Lib.hid ((hal.block _ (blk_lt G10.out)).trans G10.out)
  have G11' := Lib.hid ((hal.block _ (blk_lt G11.out)).trans G11.out)
  have G15' := Lib.hid ((hal.block _ (blk_lt G15.out)).trans G15.out)
  have G17' := Lib.hid ((hal.block _ (blk_lt G17.out)).trans G17.out)
  have G19' := Lib.hid ((hal.block _ (blk_lt G19.out)).trans G19.out)
  have G21' := Lib.hid ((hal.block _ (blk_lt G21.out)).trans G21.out)
  have G23' := Lib.hid ((hal.block _ (blk_lt G23.out)).trans G23.out)
  have BE' := Lib.hid (BE.out.trans (hal.mono BE.out.size))
  clear hal BE G7 G8 G9 G10 G11 G15 G17 G19 G21 G23
  have G7 := Lib.hid G7'.out
  have G8 := Lib.hid G8'.out
  have G9 := Lib.hid G9'.out
  have G10 := Lib.hid G10'.out
  have G11 := Lib.hid G11'.out
  have G15 := Lib.hid G15'.out
  have G17 := Lib.hid G17'.out
  have G19 := Lib.hid G19'.out
  have G21 := Lib.hid G21'.out
  have G23 := Lib.hid G23'.out
  have BE := Lib.hid BE'.out
  clear BE' G7' G8' G9' G10' G11' G15' G17' G19' G21' G23'
  go_upto_region 10 with (refine wpList_store_row rfl 57 (.tmp 25) (.tmp 75) rfl u14.heap.size P3 rfl rfl 57 Z57 GN.out IP3.out SP3.out OP3.out ?_)
  rw [RN.out]
  generalize u14.alloc (.cells P3 57) = u15 at *
  generalize u14.heap.size = q25 at *
  clear GN RN
  go_cut [113] (fun s113 wx => s113 = .bool false ∧ u15 = wx)
  case first =>
    rcases b1.out with ⟨t1, t2, t3⟩ | t1 <;> rcases b2.out with ⟨t4, t5, t6⟩ | t4 <;> rcases b3.out with ⟨t7, t8, t9⟩ | t7
    all_goals
      clear b1 b2 b3 R4 R5 R6 K4 K5 K6 c4 c5 c6 zz30 zz38 zz55 zz57 SA1 SA2 SA3 SP1 SP2 SP3 SP4 SP5 SP6 SA4 SA5 SA6 OA1 OA2 OA3 OP1 OP2 OP3 OP4 OP5 OP6 OA4 OA5 OA6 IX8 ICV IA1 IA2 IA3 IP4 IP5 IP6 IA4 IA5 IA6 G8 G11 G15 G17 G19 BE
      (try unfold Eqs at t3)
      (try unfold Eqs at t6)
      (try unfold Eqs at t9)
      go_wp2_with (first
        | (refine wpList_load_met rfl 30 (.tmp 21) rfl (q21) rfl 30 P1 (0, 0) _ G21.out Try.underlying30 ⟨_, rfl⟩ IP1.out ?_)
        | (refine wpList_load_met rfl 30 (.tmp 7) rfl (w.heap.size) rfl 30 X7 (0, 0) _ G7.out Try.underlying30 ⟨_, rfl⟩ IX7.out ?_)
        | (refine wpList_load_met rfl 55 (.tmp 23) rfl (q23) rfl 55 P2 (0, 0) _ G23.out Try.underlying55 ⟨_, rfl⟩ IP2.out ?_)
        | (refine wpList_load_met rfl 55 (.tmp 9) rfl (w.heap.size + 1 + 1) rfl 55 X9 (0, 0) _ G9.out Try.underlying55 ⟨_, rfl⟩ IX9.out ?_)
        | (refine wpList_load_met rfl 57 (.tmp 25) rfl (q25) rfl 57 P3 (0, 0) _ G25.out Try.underlying57 ⟨_, rfl⟩ IP3.out ?_)
        | (refine wpList_load_met rfl 57 (.tmp 10) rfl (w.heap.size + 1 + 1 + 1) rfl 57 X10 (0, 0) _ G10.out Try.underlying57 ⟨_, rfl⟩ IX10.out ?_))
      go_meet
      exact ⟨rfl, rfl⟩
  case rest =>
    obtain ⟨rfl, rfl⟩ := hcut
    clear b1 b2 b3
    go_wp2_with (refine wpList_load_row rfl 38 (.tmp 11) rfl (w.heap.size + 1 + 1 + 1 + 1) rfl 38 CV (0, 0) _ G11.out Try.underlying38 rfl ICV.out ?_)
    refine (R4.out _).mono ?_
    rintro e u16 ⟨rfl, hb⟩
    have G7' := Lib.hid ((hb.block _ (blk_lt G7.out)).trans G7.out)
    have G8' := Lib.hid ((hb.block _ (blk_lt G8.out)).trans G8.out)
    have G9' := Lib.hid ((hb.block _ (blk_lt G9.out)).trans G9.out)
    have G10' := Lib.hid ((hb.block _ (blk_lt G10.out)).trans G10.out)
    have G11' := Lib.hid ((hb.block _ (blk_lt G11.out)).trans G11.out)
    have G15' := Lib.hid ((hb.block _ (blk_lt G15.out)).trans G15.out)
    have G17' := Lib.hid ((hb.block _ (blk_lt G17.out)).trans G17.out)
    have G19' := Lib.hid ((hb.block _ (blk_lt G19.out)).trans G19.out)
    have G21' := Lib.hid ((hb.block _ (blk_lt G21.out)).trans G21.out)
    have G23' := Lib.hid ((hb.block _ (blk_lt G23.out)).trans G23.out)
    have G25' := Lib.hid ((hb.block _ (blk_lt G25.out)).trans G25.out)
    have BE' := Lib.hid (BE.out.trans (hb.mono BE.out.size))
    clear hb BE G7 G8 G9 G10 G11 G15 G17 G19 G21 G23 G25
    have G7 := Lib.hid G7'.out
    have G8 := Lib.hid G8'.out
    have G9 := Lib.hid G9'.out
    have G10 := Lib.hid G10'.out
    have G11 := Lib.hid G11'.out
    have G15 := Lib.hid G15'.out
    have G17 := Lib.hid G17'.out
    have G19 := Lib.hid G19'.out
    have G21 := Lib.hid G21'.out
    have G23 := Lib.hid G23'.out
    have G25 := Lib.hid G25'.out
    have BE := Lib.hid BE'.out
    clear BE' G7' G8' G9' G10' G11' G15' G17' G19' G21' G23' G25'
    go_upto_region 13 with (refine wpList_store_row rfl 30 (.tmp 21) (.tmp 117) rfl q21 P4 rfl rfl 30 P1 G21.out IP4.out (SP1.out.symm.trans SP4.out) OP4.out ?_)
    have G7' := Lib.hid ((setRow_other u16 q21 (w.heap.size) P4 (by omega)).trans G7.out)
    have G8' := Lib.hid ((setRow_other u16 q21 (w.heap.size + 1) P4 (by omega)).trans G8.out)
    have G9' := Lib.hid ((setRow_other u16 q21 (w.heap.size + 1 + 1) P4 (by omega)).trans G9.out)
    have G10' := Lib.hid ((setRow_other u16 q21 (w.heap.size + 1 + 1 + 1) P4 (by omega)).trans G10.out)
    have G11' := Lib.hid ((setRow_other u16 q21 (w.heap.size + 1 + 1 + 1 + 1) P4 (by omega)).trans G11.out)
    have G15' := Lib.hid ((setRow_other u16 q21 (q15) P4 (by omega)).trans G15.out)
    have G17' := Lib.hid ((setRow_other u16 q21 (q17) P4 (by omega)).trans G17.out)
    have G19' := Lib.hid ((setRow_other u16 q21 (q19) P4 (by omega)).trans G19.out)
    have G23' := Lib.hid ((setRow_other u16 q21 (q23) P4 (by omega)).trans G23.out)
    have G25' := Lib.hid ((setRow_other u16 q21 (q25) P4 (by omega)).trans G25.out)
    have G21' := Lib.hid (setRow_heap u16 _ _ P4 _ _ G21.out)
    have BE' := Lib.hid (BE.out.trans (below_row (g := q21) u16 P4 (by omega)))
    clear BE G7 G8 G9 G10 G11 G15 G17 G19 G21 G23 G25
    generalize u16.setRow q21 P4 = u17 at *
    have G7 := Lib.hid G7'.out
    have G8 := Lib.hid G8'.out
    have G9 := Lib.hid G9'.out
    have G10 := Lib.hid G10'.out
    have G11 := Lib.hid G11'.out
    have G15 := Lib.hid G15'.out
    have G17 := Lib.hid G17'.out
    have G19 := Lib.hid G19'.out
    have G21 := Lib.hid G21'.out
    have G23 := Lib.hid G23'.out
    have G25 := Lib.hid G25'.out
    have BE := Lib.hid BE'.out
    clear BE' G7' G8' G9' G10' G11' G15' G17' G19' G21' G23' G25'
    go_wp2_with (refine wpList_load_row rfl 38 (.tmp 11) rfl (w.heap.size + 1 + 1 + 1 + 1) rfl 38 CV (0, 0) _ G11.out Try.underlying38 rfl ICV.out ?_)
    refine (R5.out _).mono ?_
    rintro e u18 ⟨rfl, hb⟩
    have G7' := Lib.hid ((hb.block _ (blk_lt G7.out)).trans G7.out)
    have G8' := Lib.hid ((hb.block _ (blk_lt G8.out)).trans G8.out)
    have G9' := Lib.hid ((hb.block _ (blk_lt G9.out)).trans G9.out)
    have G10' := Lib.hid ((hb.block _ (blk_lt G10.out)).trans G10.out)
    have G11' := Lib.hid ((hb.block _ (blk_lt G11.out)).trans G11.out)
    have G15' := Lib.hid ((hb.block _ (blk_lt G15.out)).trans G15.out)
    have G17' := Lib.hid ((hb.block _ (blk_lt G17.out)).trans G17.out)
    have G19' := Lib.hid ((hb.block _ (blk_lt G19.out)).trans G19.out)
    have G21' := Lib.hid ((hb.block _ (blk_lt G21.out)).trans G21.out)
    have G23' := Lib.hid ((hb.block _ (blk_lt G23.out)).trans G23.out)
    have G25' := Lib.hid ((hb.block _ (blk_lt G25.out)).trans G25.out)
    have BE' := Lib.hid (BE.out.trans (hb.mono BE.out.size))
    clear hb BE G7 G8 G9 G10 G11 G15 G17 G19 G21 G23 G25
    have G7 := Lib.hid G7'.out
    have G8 := Lib.hid G8'.out
    have G9 := Lib.hid G9'.out
    have G10 := Lib.hid G10'.out
    have G11 := Lib.hid G11'.out
    have G15 := Lib.hid G15'.out
    have G17 := Lib.hid G17'.out
    have G19 := Lib.hid G19'.out
    have G21 := Lib.hid G21'.out
    have G23 := Lib.hid G23'.out
    have G25 := Lib.hid G25'.out
    have BE := Lib.hid BE'.out
    clear BE' G7' G8' G9' G10' G11' G15' G17' G19' G21' G23' G25'
    go_upto_region 14 with (refine wpList_store_row rfl 55 (.tmp 23) (.tmp 122) rfl q23 P5 rfl rfl 55 P2 G23.out IP5.out (SP2.out.symm.trans SP5.out) OP5.out ?_)
    have G7' := Lib.hid ((setRow_other u18 q23 (w.heap.size) P5 (by omega)).trans G7.out)
    have G8' := Lib.hid ((setRow_other u18 q23 (w.heap.size + 1) P5 (by omega)).trans G8.out)
    have G9' := Lib.hid ((setRow_other u18 q23 (w.heap.size + 1 + 1) P5 (by omega)).trans G9.out)
    have G10' := Lib.hid ((setRow_other u18 q23 (w.heap.size + 1 + 1 + 1) P5 (by omega)).trans G10.out)
    have G11' := Lib.hid ((setRow_other u18 q23 (w.heap.size + 1 + 1 + 1 + 1) P5 (by omega)).trans G11.out)
    have G15' := Lib.hid ((setRow_other u18 q23 (q15) P5 (by omega)).trans G15.out)
    have G17' := Lib.hid ((setRow_other u18 q23 (q17) P5 (by omega)).trans G17.out)
    have G19' := Lib.hid ((setRow_other u18 q23 (q19) P5 (by omega)).trans G19.out)
    have G21' := Lib.hid ((setRow_other u18 q23 (q21) P5 (by omega)).trans G21.out)
    have G25' := Lib.hid ((setRow_other u18 q23 (q25) P5 (by omega)).trans G25.out)
    have G23' := Lib.hid (setRow_heap u18 _ _ P5 _ _ G23.out)
    have BE' := Lib.hid (BE.out.trans (below_row (g := q23) u18 P5 (by omega)))
    clear BE G7 G8 G9 G10 G11 G15 G17 G19 G21 G23 G25
    generalize u18.setRow q23 P5 = u19 at *
    have G7 := Lib.hid G7'.out
    have G8 := Lib.hid G8'.out
    have G9 := Lib.hid G9'.out
    have G10 := Lib.hid G10'.out
    have G11 := Lib.hid G11'.out
    have G15 := Lib.hid G15'.out
    have G17 := Lib.hid G17'.out
    have G19 := Lib.hid G19'.out
    have G21 := Lib.hid G21'.out
    have G23 := Lib.hid G23'.out
    have G25 := Lib.hid G25'.out
    have BE := Lib.hid BE'.out
    clear BE' G7' G8' G9' G10' G11' G15' G17' G19' G21' G23' G25'
    go_wp2_with (refine wpList_load_row rfl 38 (.tmp 11) rfl (w.heap.size + 1 + 1 + 1 + 1) rfl 38 CV (0, 0) _ G11.out Try.underlying38 rfl ICV.out ?_)
    refine (R6.out _).mono ?_
    rintro e u20 ⟨rfl, hb⟩
    have G7' := Lib.hid ((hb.block _ (blk_lt G7.out)).trans G7.out)
    have G8' := Lib.hid ((hb.block _ (blk_lt G8.out)).trans G8.out)
    have G9' := Lib.hid ((hb.block _ (blk_lt G9.out)).trans G9.out)
    have G10' := Lib.hid ((hb.block _ (blk_lt G10.out)).trans G10.out)
    have G11' := Lib.hid ((hb.block _ (blk_lt G11.out)).trans G11.out)
    have G15' := Lib.hid ((hb.block _ (blk_lt G15.out)).trans G15.out)
    have G17' := Lib.hid ((hb.block _ (blk_lt G17.out)).trans G17.out)
    have G19' := Lib.hid ((hb.block _ (blk_lt G19.out)).trans G19.out)
    have G21' := Lib.hid ((hb.block _ (blk_lt G21.out)).trans G21.out)
    have G23' := Lib.hid ((hb.block _ (blk_lt G23.out)).trans G23.out)
    have G25' := Lib.hid ((hb.block _ (blk_lt G25.out)).trans G25.out)
    have BE' := Lib.hid (BE.out.trans (hb.mono BE.out.size))
    clear hb BE G7 G8 G9 G10 G11 G15 G17 G19 G21 G23 G25
    have G7 := Lib.hid G7'.out
    have G8 := Lib.hid G8'.out
    have G9 := Lib.hid G9'.out
    have G10 := Lib.hid G10'.out
    have G11 := Lib.hid G11'.out
    have G15 := Lib.hid G15'.out
    have G17 := Lib.hid G17'.out
    have G19 := Lib.hid G19'.out
    have G21 := Lib.hid G21'.out
    have G23 := Lib.hid G23'.out
    have G25 := Lib.hid G25'.out
    have BE := Lib.hid BE'.out
    clear BE' G7' G8' G9' G10' G11' G15' G17' G19' G21' G23' G25'
    go_upto_region 15 with (refine wpList_store_row rfl 57 (.tmp 25) (.tmp 127) rfl q25 P6 rfl rfl 57 P3 G25.out IP6.out (SP3.out.symm.trans SP6.out) OP6.out ?_)
    have G7' := Lib.hid ((setRow_other u20 q25 (w.heap.size) P6 (by omega)).trans G7.out)
    have G8' := Lib.hid ((setRow_other u20 q25 (w.heap.size + 1) P6 (by omega)).trans G8.out)
    have G9' := Lib.hid ((setRow_other u20 q25 (w.heap.size + 1 + 1) P6 (by omega)).trans G9.out)
    have G10' := Lib.hid ((setRow_other u20 q25 (w.heap.size + 1 + 1 + 1) P6 (by omega)).trans G10.out)
    have G11' := Lib.hid ((setRow_other u20 q25 (w.heap.size + 1 + 1 + 1 + 1) P6 (by omega)).trans G11.out)
    have G15' := Lib.hid ((setRow_other u20 q25 (q15) P6 (by omega)).trans G15.out)
    have G17' := Lib.hid ((setRow_other u20 q25 (q17) P6 (by omega)).trans G17.out)
    have G19' := Lib.hid ((setRow_other u20 q25 (q19) P6 (by omega)).trans G19.out)
    have G21' := Lib.hid ((setRow_other u20 q25 (q21) P6 (by omega)).trans G21.out)
    have G23' := Lib.hid ((setRow_other u20 q25 (q23) P6 (by omega)).trans G23.out)
    have G25' := Lib.hid (setRow_heap u20 _ _ P6 _ _ G25.out)
    have BE' := Lib.hid (BE.out.trans (below_row (g := q25) u20 P6 (by omega)))
    clear BE G7 G8 G9 G10 G11 G15 G17 G19 G21 G23 G25
    generalize u20.setRow q25 P6 = u21 at *
    have G7 := Lib.hid G7'.out
    have G8 := Lib.hid G8'.out
    have G9 := Lib.hid G9'.out
    have G10 := Lib.hid G10'.out
    have G11 := Lib.hid G11'.out
    have G15 := Lib.hid G15'.out
    have G17 := Lib.hid G17'.out
    have G19 := Lib.hid G19'.out
    have G21 := Lib.hid G21'.out
    have G23 := Lib.hid G23'.out
    have G25 := Lib.hid G25'.out
    have BE := Lib.hid BE'.out
    clear BE' G7' G8' G9' G10' G11' G15' G17' G19' G21' G23' G25'
    go_wp2_with (refine wpList_load_row rfl 30 (.tmp 21) rfl (q21) rfl 30 P4 (0, 0) _ G21.out Try.underlying30 rfl IP4.out ?_)
    refine (K4.out _).mono ?_
    rintro e u22 ⟨rfl, hb⟩
    have G7' := Lib.hid ((hb.block _ (blk_lt G7.out)).trans G7.out)
    have G8' := Lib.hid ((hb.block _ (blk_lt G8.out)).trans G8.out)
    have G9' := Lib.hid ((hb.block _ (blk_lt G9.out)).trans G9.out)
    have G10' := Lib.hid ((hb.block _ (blk_lt G10.out)).trans G10.out)
    have G11' := Lib.hid ((hb.block _ (blk_lt G11.out)).trans G11.out)
    have G15' := Lib.hid ((hb.block _ (blk_lt G15.out)).trans G15.out)
    have G17' := Lib.hid ((hb.block _ (blk_lt G17.out)).trans G17.out)
    have G19' := Lib.hid ((hb.block _ (blk_lt G19.out)).trans G19.out)
    have G21' := Lib.hid ((hb.block _ (blk_lt G21.out)).trans G21.out)
    have G23' := Lib.hid ((hb.block _ (blk_lt G23.out)).trans G23.out)
    have G25' := Lib.hid ((hb.block _ (blk_lt G25.out)).trans G25.out)
    have BE' := Lib.hid (BE.out.trans (hb.mono BE.out.size))
    clear hb BE G7 G8 G9 G10 G11 G15 G17 G19 G21 G23 G25
    have G7 := Lib.hid G7'.out
    have G8 := Lib.hid G8'.out
    have G9 := Lib.hid G9'.out
    have G10 := Lib.hid G10'.out
    have G11 := Lib.hid G11'.out
    have G15 := Lib.hid G15'.out
    have G17 := Lib.hid G17'.out
    have G19 := Lib.hid G19'.out
    have G21 := Lib.hid G21'.out
    have G23 := Lib.hid G23'.out
    have G25 := Lib.hid G25'.out
    have BE := Lib.hid BE'.out
    clear BE' G7' G8' G9' G10' G11' G15' G17' G19' G21' G23' G25'
    go_upto_region 16 with (refine wpList_store_row rfl 38 (.tmp 15) (.tmp 132) rfl q15 A4 rfl rfl 38 A1 G15.out IA4.out (SA1.out.symm.trans SA4.out) OA4.out ?_)
    have G7' := Lib.hid ((setRow_other u22 q15 (w.heap.size) A4 (by omega)).trans G7.out)
    have G8' := Lib.hid ((setRow_other u22 q15 (w.heap.size + 1) A4 (by omega)).trans G8.out)
    have G9' := Lib.hid ((setRow_other u22 q15 (w.heap.size + 1 + 1) A4 (by omega)).trans G9.out)
    have G10' := Lib.hid ((setRow_other u22 q15 (w.heap.size + 1 + 1 + 1) A4 (by omega)).trans G10.out)
    have G11' := Lib.hid ((setRow_other u22 q15 (w.heap.size + 1 + 1 + 1 + 1) A4 (by omega)).trans G11.out)
    have G17' := Lib.hid ((setRow_other u22 q15 (q17) A4 (by omega)).trans G17.out)
    have G19' := Lib.hid ((setRow_other u22 q15 (q19) A4 (by omega)).trans G19.out)
    have G21' := Lib.hid ((setRow_other u22 q15 (q21) A4 (by omega)).trans G21.out)
    have G23' := Lib.hid ((setRow_other u22 q15 (q23) A4 (by omega)).trans G23.out)
    have G25' := Lib.hid ((setRow_other u22 q15 (q25) A4 (by omega)).trans G25.out)
    have G15' := Lib.hid (setRow_heap u22 _ _ A4 _ _ G15.out)
    have BE' := Lib.hid (BE.out.trans (below_row (g := q15) u22 A4 (by omega)))
    clear BE G7 G8 G9 G10 G11 G15 G17 G19 G21 G23 G25
    generalize u22.setRow q15 A4 = u23 at *
    have G7 := Lib.hid G7'.out
    have G8 := Lib.hid G8'.out
    have G9 := Lib.hid G9'.out
    have G10 := Lib.hid G10'.out
    have G11 := Lib.hid G11'.out
    have G15 := Lib.hid G15'.out
    have G17 := Lib.hid G17'.out
    have G19 := Lib.hid G19'.out
    have G21 := Lib.hid G21'.out
    have G23 := Lib.hid G23'.out
    have G25 := Lib.hid G25'.out
    have BE := Lib.hid BE'.out
    clear BE' G7' G8' G9' G10' G11' G15' G17' G19' G21' G23' G25'
    go_wp2_with (refine wpList_load_row rfl 55 (.tmp 23) rfl (q23) rfl 55 P5 (0, 0) _ G23.out Try.underlying55 rfl IP5.out ?_)
    refine (K5.out _).mono ?_
    rintro e u24 ⟨rfl, hb⟩
    have G7' := Lib.hid ((hb.block _ (blk_lt G7.out)).trans G7.out)
    have G8' := Lib.hid ((hb.block _ (blk_lt G8.out)).trans G8.out)
    have G9' := Lib.hid ((hb.block _ (blk_lt G9.out)).trans G9.out)
    have G10' := Lib.hid ((hb.block _ (blk_lt G10.out)).trans G10.out)
    have G11' := Lib.hid ((hb.block _ (blk_lt G11.out)).trans G11.out)
    have G15' := Lib.hid ((hb.block _ (blk_lt G15.out)).trans G15.out)
    have G17' := Lib.hid ((hb.block _ (blk_lt G17.out)).trans G17.out)
    have G19' := Lib.hid ((hb.block _ (blk_lt G19.out)).trans G19.out)
    have G21' := Lib.hid ((hb.block _ (blk_lt G21.out)).trans G21.out)
    have G23' := Lib.hid ((hb.block _ (blk_lt G23.out)).trans G23.out)
    have G25' := Lib.hid ((hb.block _ (blk_lt G25.out)).trans G25.out)
    have BE' := Lib.hid (BE.out.trans (hb.mono BE.out.size))
    clear hb BE G7 G8 G9 G10 G11 G15 G17 G19 G21 G23 G25
    have G7 := Lib.hid G7'.out
    have G8 := Lib.hid G8'.out
    have G9 := Lib.hid G9'.out
    have G10 := Lib.hid G10'.out
    have G11 := Lib.hid G11'.out
    have G15 := Lib.hid G15'.out
    have G17 := Lib.hid G17'.out
    have G19 := Lib.hid G19'.out
    have G21 := Lib.hid G21'.out
    have G23 := Lib.hid G23'.out
    have G25 := Lib.hid G25'.out
    have BE := Lib.hid BE'.out
    clear BE' G7' G8' G9' G10' G11' G15' G17' G19' G21' G23' G25'
    go_upto_region 17 with (refine wpList_store_row rfl 38 (.tmp 17) (.tmp 137) rfl q17 A5 rfl rfl 38 A2 G17.out IA5.out (SA2.out.symm.trans SA5.out) OA5.out ?_)
    have G7' := Lib.hid ((setRow_other u24 q17 (w.heap.size) A5 (by omega)).trans G7.out)
    have G8' := Lib.hid ((setRow_other u24 q17 (w.heap.size + 1) A5 (by omega)).trans G8.out)
    have G9' := Lib.hid ((setRow_other u24 q17 (w.heap.size + 1 + 1) A5 (by omega)).trans G9.out)
    have G10' := Lib.hid ((setRow_other u24 q17 (w.heap.size + 1 + 1 + 1) A5 (by omega)).trans G10.out)
    have G11' := Lib.hid ((setRow_other u24 q17 (w.heap.size + 1 + 1 + 1 + 1) A5 (by omega)).trans G11.out)
    have G15' := Lib.hid ((setRow_other u24 q17 (q15) A5 (by omega)).trans G15.out)
    have G19' := Lib.hid ((setRow_other u24 q17 (q19) A5 (by omega)).trans G19.out)
    have G21' := Lib.hid ((setRow_other u24 q17 (q21) A5 (by omega)).trans G21.out)
    have G23' := Lib.hid ((setRow_other u24 q17 (q23) A5 (by omega)).trans G23.out)
    have G25' := Lib.hid ((setRow_other u24 q17 (q25) A5 (by omega)).trans G25.out)
    have G17' := Lib.hid (setRow_heap u24 _ _ A5 _ _ G17.out)
    have BE' := Lib.hid (BE.out.trans (below_row (g := q17) u24 A5 (by omega)))
    clear BE G7 G8 G9 G10 G11 G15 G17 G19 G21 G23 G25
    generalize u24.setRow q17 A5 = u25 at *
    have G7 := Lib.hid G7'.out
    have G8 := Lib.hid G8'.out
    have G9 := Lib.hid G9'.out
    have G10 := Lib.hid G10'.out
    have G11 := Lib.hid G11'.out
    have G15 := Lib.hid G15'.out
    have G17 := Lib.hid G17'.out
    have G19 := Lib.hid G19'.out
    have G21 := Lib.hid G21'.out
    have G23 := Lib.hid G23'.out
    have G25 := Lib.hid G25'.out
    have BE := Lib.hid BE'.out
    clear BE' G7' G8' G9' G10' G11' G15' G17' G19' G21' G23' G25'
    go_wp2_with (refine wpList_load_row rfl 57 (.tmp 25) rfl (q25) rfl 57 P6 (0, 0) _ G25.out Try.underlying57 rfl IP6.out ?_)
    refine (K6.out _).mono ?_
    rintro e u26 ⟨rfl, hb⟩
    have G7' := Lib.hid ((hb.block _ (blk_lt G7.out)).trans G7.out)
    have G8' := Lib.hid ((hb.block _ (blk_lt G8.out)).trans G8.out)
    have G9' := Lib.hid ((hb.block _ (blk_lt G9.out)).trans G9.out)
    have G10' := Lib.hid ((hb.block _ (blk_lt G10.out)).trans G10.out)
    have G11' := Lib.hid ((hb.block _ (blk_lt G11.out)).trans G11.out)
    have G15' := Lib.hid ((hb.block _ (blk_lt G15.out)).trans G15.out)
    have G17' := Lib.hid ((hb.block _ (blk_lt G17.out)).trans G17.out)
    have G19' := Lib.hid ((hb.block _ (blk_lt G19.out)).trans G19.out)
    have G21' := Lib.hid ((hb.block _ (blk_lt G21.out)).trans G21.out)
    have G23' := Lib.hid ((hb.block _ (blk_lt G23.out)).trans G23.out)
    have G25' := Lib.hid ((hb.block _ (blk_lt G25.out)).trans G25.out)
    have BE' := Lib.hid (BE.out.trans (hb.mono BE.out.size))
    clear hb BE G7 G8 G9 G10 G11 G15 G17 G19 G21 G23 G25
    have G7 := Lib.hid G7'.out
    have G8 := Lib.hid G8'.out
    have G9 := Lib.hid G9'.out
    have G10 := Lib.hid G10'.out
    have G11 := Lib.hid G11'.out
    have G15 := Lib.hid G15'.out
    have G17 := Lib.hid G17'.out
    have G19 := Lib.hid G19'.out
    have G21 := Lib.hid G21'.out
    have G23 := Lib.hid G23'.out
    have G25 := Lib.hid G25'.out
    have BE := Lib.hid BE'.out
    clear BE' G7' G8' G9' G10' G11' G15' G17' G19' G21' G23' G25'
    go_upto_region 18 with (refine wpList_store_row rfl 38 (.tmp 19) (.tmp 142) rfl q19 A6 rfl rfl 38 A3 G19.out IA6.out (SA3.out.symm.trans SA6.out) OA6.out ?_)
    have G7' := Lib.hid ((setRow_other u26 q19 (w.heap.size) A6 (by omega)).trans G7.out)
    have G8' := Lib.hid ((setRow_other u26 q19 (w.heap.size + 1) A6 (by omega)).trans G8.out)
    have G9' := Lib.hid ((setRow_other u26 q19 (w.heap.size + 1 + 1) A6 (by omega)).trans G9.out)
    have G10' := Lib.hid ((setRow_other u26 q19 (w.heap.size + 1 + 1 + 1) A6 (by omega)).trans G10.out)
    have G11' := Lib.hid ((setRow_other u26 q19 (w.heap.size + 1 + 1 + 1 + 1) A6 (by omega)).trans G11.out)
    have G15' := Lib.hid ((setRow_other u26 q19 (q15) A6 (by omega)).trans G15.out)
    have G17' := Lib.hid ((setRow_other u26 q19 (q17) A6 (by omega)).trans G17.out)
    have G21' := Lib.hid ((setRow_other u26 q19 (q21) A6 (by omega)).trans G21.out)
    have G23' := Lib.hid ((setRow_other u26 q19 (q23) A6 (by omega)).trans G23.out)
    have G25' := Lib.hid ((setRow_other u26 q19 (q25) A6 (by omega)).trans G25.out)
    have G19' := Lib.hid (setRow_heap u26 _ _ A6 _ _ G19.out)
    have BE' := Lib.hid (BE.out.trans (below_row (g := q19) u26 A6 (by omega)))
    clear BE G7 G8 G9 G10 G11 G15 G17 G19 G21 G23 G25
    generalize u26.setRow q19 A6 = u27 at *
    have G7 := Lib.hid G7'.out
    have G8 := Lib.hid G8'.out
    have G9 := Lib.hid G9'.out
    have G10 := Lib.hid G10'.out
    have G11 := Lib.hid G11'.out
    have G15 := Lib.hid G15'.out
    have G17 := Lib.hid G17'.out
    have G19 := Lib.hid G19'.out
    have G21 := Lib.hid G21'.out
    have G23 := Lib.hid G23'.out
    have G25 := Lib.hid G25'.out
    have BE := Lib.hid BE'.out
    clear BE' G7' G8' G9' G10' G11' G15' G17' G19' G21' G23' G25'
    go_wp2_with fail
    refine (alive23 _).mono ?_
    rintro e w' ⟨rfl, hb⟩
    have G7' := Lib.hid ((hb.block _ (blk_lt G7.out)).trans G7.out)
    have G8' := Lib.hid ((hb.block _ (blk_lt G8.out)).trans G8.out)
    have G9' := Lib.hid ((hb.block _ (blk_lt G9.out)).trans G9.out)
    have G10' := Lib.hid ((hb.block _ (blk_lt G10.out)).trans G10.out)
    have G11' := Lib.hid ((hb.block _ (blk_lt G11.out)).trans G11.out)
    have G15' := Lib.hid ((hb.block _ (blk_lt G15.out)).trans G15.out)
    have G17' := Lib.hid ((hb.block _ (blk_lt G17.out)).trans G17.out)
    have G19' := Lib.hid ((hb.block _ (blk_lt G19.out)).trans G19.out)
    have G21' := Lib.hid ((hb.block _ (blk_lt G21.out)).trans G21.out)
    have G23' := Lib.hid ((hb.block _ (blk_lt G23.out)).trans G23.out)
    have G25' := Lib.hid ((hb.block _ (blk_lt G25.out)).trans G25.out)
    have BE' := Lib.hid (BE.out.trans (hb.mono BE.out.size))
    clear hb BE G7 G8 G9 G10 G11 G15 G17 G19 G21 G23 G25
    have G7 := Lib.hid G7'.out
    have G8 := Lib.hid G8'.out
    have G9 := Lib.hid G9'.out
    have G10 := Lib.hid G10'.out
    have G11 := Lib.hid G11'.out
    have G15 := Lib.hid G15'.out
    have G17 := Lib.hid G17'.out
    have G19 := Lib.hid G19'.out
    have G21 := Lib.hid G21'.out
    have G23 := Lib.hid G23'.out
    have G25 := Lib.hid G25'.out
    have BE := Lib.hid BE'.out
    clear BE' G7' G8' G9' G10' G11' G15' G17' G19' G21' G23' G25'
    rcases c4.out with t1 | ⟨t1, t2⟩ <;> rcases c5.out with t4 | ⟨t4, t5⟩ <;> rcases c6.out with t7 | ⟨t7, t8⟩
    all_goals
      clear c4 c5 c6 K4 K5 K6 R4 R5 R6 zz30 zz38 zz55 zz57 SA1 SA2 SA3 SP1 SP2 SP3 SP4 SP5 SP6 SA4 SA5 SA6 OA1 OA2 OA3 OP1 OP2 OP3 OP4 OP5 OP6 OA4 OA5 OA6 G7 G8 G9 G10 G21 G23 G25
      (try unfold Eqs at t2)
      (try unfold Eqs at t5)
      (try unfold Eqs at t8)
      go_wp2_with (first
        | (refine wpList_load_met' rfl 38 (.tmp 15) rfl (q15) rfl 38 A4 (0, 0) _ G15.out Try.underlying38 ⟨_, _, rfl⟩ IA4.out ?_)
        | (refine wpList_load_met' rfl 38 (.tmp 17) rfl (q17) rfl 38 A5 (0, 0) _ G17.out Try.underlying38 ⟨_, _, rfl⟩ IA5.out ?_)
        | (refine wpList_load_met' rfl 38 (.tmp 19) rfl (q19) rfl 38 A6 (0, 0) _ G19.out Try.underlying38 ⟨_, _, rfl⟩ IA6.out ?_)
        | (refine wpList_load_met' rfl 38 (.tmp 11) rfl (w.heap.size + 1 + 1 + 1 + 1) rfl 38 CV (0, 0) _ G11.out Try.underlying38 ⟨_, _, rfl⟩ ICV.out ?_))
      go_ret
      exact ⟨rfl, BE.out⟩
end Go.Proofs.Ytbhkhkiidaemcaa.entryBack
