/-
  For every op the law DiskNobody of package casematelaw11 returns true, and the argument reads afterwards as before: a disk that is nil, or that no call made, says so. Condition: none.
-/
import Derived.Test.YtklhnibmpdaioaaDN
import Derived.Deep.RegionHeld3
namespace Go.Proofs.Ytklhnibmpdaioaa.diskNobody
open Go.ChangeShapes Go.WideShapes Go.ChangeAt Go.RowKit
theorem greatD (k s y n : Int) (x : Option Addr) (l c : Nat) (hl : l ≤ 9223372036854775807) (w : World) :
    Calls Try.prog 15 #[.agg #[.int .i64 k, .int .u32 s, .int .u8 y, .int .i64 n, .slice x l c]] w fun e w' => e = .returned (.bool (decide (100 < l))) ∧ w.alloc (.cells #[.int .i64 k, .int .u32 s, .int .u8 y, .int .i64 n, .slice x l c] 34) = w' := by
  go_enter Try.func15, Try.ntmps15
  go_wp2
  go_ret
  exact ⟨by simp; omega, rfl⟩
/-- An op in memory. -/
structure OQ (w : World) (q : Nat) (k : Int) (s y : Nat) (n : Int) (x : Option Addr) (l c : Nat) : Prop where
  row : w.heap[q]? = some (.cells #[.int .i64 k, .int .u32 s, .int .u8 y, .int .i64 n, .slice x l c] 34 (0, 0))
section
variable {w w' : World} {q : Nat} {k : Int} {s y : Nat} {n : Int} {x : Option Addr} {l c : Nat}
theorem OQ.below (h : OQ w q k s y n x l c) (b : Below w.heap.size w w') : OQ w' q k s y n x l c := ⟨(b.block q (Array.getElem?_eq_some_iff.1 h.row).1).trans h.row⟩
theorem OQ.c1 (h : OQ w q k s y n x l c) : w.cell? ⟨q, 1, none⟩ = some (.int .u32 s) := by rw [cell_of_row _ _ _ _ _ _ h.row]; rfl
theorem OQ.c3 (h : OQ w q k s y n x l c) : w.cell? ⟨q, 3, none⟩ = some (.int .i64 n) := by rw [cell_of_row _ _ _ _ _ _ h.row]; rfl
theorem OQ.c4 (h : OQ w q k s y n x l c) : w.cell? ⟨q, 4, none⟩ = some (.slice x l c) := by rw [cell_of_row _ _ _ _ _ _ h.row]; rfl
end
theorem keepS {w7 W : World} {q : Nat} {k : Int} {s y : Nat} {n : Int} {x : Option Addr} {l c : Nat} (h : OQ w7 q k s y n x l c) (b : Below w7.heap.size w7 W) :
    Below w7.heap.size w7 W ∧ W.cell? ⟨q, 1, none⟩ = some (.int .u32 s) ∧ W.cell? ⟨q, 3, none⟩ = some (.int .i64 n) ∧ W.cell? ⟨q, 4, none⟩ = some (.slice x l c) :=
  ⟨b, (h.below b).c1, (h.below b).c3, (h.below b).c4⟩
theorem bcell {W w1 : World} (hb : Below W.heap.size W w1) : (∀ b o, b < W.heap.size → w1.cell? ⟨b, o, none⟩ = W.cell? ⟨b, o, none⟩) ∧ (∀ b o, b < W.heap.size → w1.frozen? ⟨b, o, none⟩ = W.frozen? ⟨b, o, none⟩) :=
  ⟨fun b o h => hb.cell (p := ⟨b, o, none⟩) h, fun b o h => hb.frozen (p := ⟨b, o, none⟩) h⟩
theorem step_store_row {P : Program} {ops : Array Oper} {o : Oper} {a : Act} {w : World} {K : Act → World → Prop} {Q : Exit → Act → World → Prop} {E : Prop} (hgd : o.guard = none) (ty : TypeId) (x y : Operand) (ho : o.op = .store ty x y)
    (g : Nat) (cells : Array Value) (hx : a.eval x = .pointer (some ⟨g, 0, none⟩)) (hy : a.eval y = .agg cells) (t : TypeId) (old : Array Value) (hg : w.heap[g]? = some (.cells old t (0, 0))) (hi : (P.info? ty).map (·.size) = some cells.size)
    (hold : old.size = cells.size) (h1 : cells.all (·.oneCell') = true) (hK : K (a.put o.dst undef) (w.setRow g cells)) : if Region.wanted o (yielded ops a.tmps) = true then Oper.wp P o a w K Q else E := by
  have hw : Region.wanted o (yielded ops a.tmps) = true := by simp [Region.wanted, hgd]
  rw [if_pos hw]
  exact wp_store_row ty x y ho g cells hx hy t old hg hi hold h1 hK
theorem setRow_at (w : World) (g : Nat) (t : TypeId) (old cells : Array Value) (hg : w.heap[g]? = some (.cells old t (0, 0))) : (w.setRow g cells).heap[g]? = some (.cells cells t (0, 0)) := by
  simp [World.setRow, Array.getElem?_modify, hg]
theorem setRow_below {B : Nat} {a w : World} (g : Nat) (cells : Array Value) (h : Below B a w) (hg : B ≤ g) : Below B a (w.setRow g cells) :=
  h.trans ⟨rfl, rfl, rfl, by simp [World.setRow], fun k hk => by
    simp only [World.setRow, Array.getElem?_modify]
    rw [if_neg (by omega)]⟩
theorem six_at (i : Nat) (h : i < 6) : (#[.int .i64 6, .int .i64 6, .int .i64 6, .int .i64 6, .int .i64 6, .int .i64 6] : Array Value)[i]? = some (.int .i64 6) := by
  rcases i with _ | _ | _ | _ | _ | _ | i <;> first | rfl | omega
theorem zero57 (w : World) : (zeroValue 57).run Try.prog w = .ok (.agg (Array.replicate 6 (.int .i64 0))) w := by kernel_rfl
theorem info57s : (Try.prog.info? 57).map (·.size) = some 6 := by kernel_rfl
theorem szs {W w1 : World} (hb : Below W.heap.size W w1) : ∀ b, b < W.heap.size → b < w1.heap.size := fun _ h => Nat.lt_of_lt_of_le h hb.size
theorem on7 {w7 v W : World} (b : Below w7.heap.size w7 v) (hb : Below v.heap.size v W) : Below w7.heap.size w7 W := b.trans (hb.mono b.size)
theorem zero51 (w : World) : (zeroValue 51).run Try.prog w = .ok (.agg Try.zeroCells51) w := by kernel_rfl
set_option maxRecDepth 100000 in
set_option maxHeartbeats 4000000 in
theorem walk (k : Int) (s y : Nat) (n : Int) (x : Option Addr) (l c : Nat) (hl : l ≤ 9223372036854775807) (w : World) :
    Calls Try.prog 4 #[.agg #[.int .i64 k, .int .u32 s, .int .u8 y, .int .i64 n, .slice x l c]] w fun e w' => e = .returned (.bool true) ∧ Below w.heap.size w w' := by
  obtain ⟨q, hq⟩ : ∃ q, q = w.heap.size := ⟨_, rfl⟩
  obtain ⟨w1, hw1⟩ : ∃ w1, w1 = w.alloc (.cells #[.int .i64 k, .int .u32 s, .int .u8 y, .int .i64 n, .slice x l c] 34) := ⟨_, rfl⟩
  have B1 : Hid (Below w.heap.size w w1) := by show Below _ _ _; rw [hw1]; exact (Below.refl _ _).alloc (Nat.le_refl _) _
  have hr : w1.heap[q]? = some (.cells #[.int .i64 k, .int .u32 s, .int .u8 y, .int .i64 n, .slice x l c] 34 (0, 0)) := by rw [hw1, hq]; exact heap_alloc_new _ _
  have HW := Lib.hid hw1
  have HQ := Lib.hid hq
  have HR := Lib.hid hr
  have hz := zero51
  generalize hZ : Try.zeroCells51 = Z at *
  have HZ := Lib.hid hZ
  clear hw1 hq hr hZ
  have e0 : w1.cell? ⟨q, 0, none⟩ = some (.int .i64 k) := by rw [cell_of_row _ _ _ _ _ _ HR.out]; rfl
  have e1 : w1.cell? ⟨q, 1, none⟩ = some (.int .u32 s) := by rw [cell_of_row _ _ _ _ _ _ HR.out]; rfl
  have e2 : w1.cell? ⟨q, 2, none⟩ = some (.int .u8 y) := by rw [cell_of_row _ _ _ _ _ _ HR.out]; rfl
  have e3 : w1.cell? ⟨q, 3, none⟩ = some (.int .i64 n) := by rw [cell_of_row _ _ _ _ _ _ HR.out]; rfl
  have e4 : w1.cell? ⟨q, 4, none⟩ = some (.slice x l c) := by rw [cell_of_row _ _ _ _ _ _ HR.out]; rfl
  by_cases hg : 100 < l
  · have hd : decide (100 < l) = true := by simp [hg]
    have HD := Lib.hid hd
    clear hd hg
    go_enter Try.func4, Try.ntmps4
    go_wp2_with fail
    rw [← HW.out]
    refine (greatD k s y n x l c hl _).mono ?_
    rintro e w2 ⟨rfl, hw2⟩
    rw [HD.out]
    have B2 : Hid (Below w.heap.size w w2) := by show Below _ _ _; rw [← hw2]; exact B1.out.alloc B1.out.size _
    clear hw2
    go_wp2_with fail
    refine (aliveD _).mono ?_
    rintro e w3 ⟨rfl, hb⟩
    have B3 : Hid (Below w.heap.size w w3) := B2.out.trans (hb.mono B2.out.size)
    clear hb
    go_wp2_with fail
    go_ret
    exact ⟨rfl, B3.out⟩
  · have hd : decide (100 < l) = false := by simp [hg]
    have HD := Lib.hid hd
    clear hd hg
    go_enter Try.func4, Try.ntmps4
    go_wp2_with fail
    rw [← HW.out, ← HQ.out]
    refine (greatD k s y n x l c hl _).mono ?_
    rintro e w2 ⟨rfl, hw2⟩
    rw [HD.out]
    have hb2 : Below w1.heap.size w1 w2 := by rw [← hw2]; exact (Below.refl _ _).alloc (Nat.le_refl _) _
    have B2 : Hid (Below w.heap.size w w2) := B1.out.trans (hb2.mono B1.out.size)
    have R2 : OQ w2 q k s y n x l c := ⟨(hb2.block q (Array.getElem?_eq_some_iff.1 HR.out).1).trans HR.out⟩
    obtain ⟨g, hgg⟩ : ∃ g, g = w2.heap.size := ⟨_, rfl⟩
    obtain ⟨w3, hw3⟩ : ∃ w3, w3 = w2.alloc (.cells Z 51) := ⟨_, rfl⟩
    have b23 : Below w2.heap.size w2 w3 := by rw [hw3]; exact (Below.refl _ _).alloc (Nat.le_refl _) _
    have B3 : Hid (Below w.heap.size w w3) := B2.out.trans (b23.mono B2.out.size)
    have O3 := Lib.hid (R2.below b23)
    have U3 : Hid (UD w3 g) := ⟨by rw [HZ.out, hw3, hgg]; exact heap_alloc_new _ _⟩
    have f1 : (w2.alloc (.cells Z 51)).cell? ⟨q, 1, none⟩ = some (.int .u32 s) := by rw [← hw3]; exact O3.out.c1
    have HW3 := Lib.hid hw3
    have HG := Lib.hid hgg
    clear hw2 hb2 e0 e1 e2 e3 e4 R2 b23 hw3 hgg
    go_wp2_with fail
    rw [← HW3.out, ← HG.out]
    clear f1
    refine (readN _ w3 s (awakeD_nil _) (hasD_nil s _)).mono ?_
    rintro e w4 ⟨rfl, hb⟩
    have O4 := Lib.hid (O3.out.below hb)
    have U4 := Lib.hid (U3.out.below hb)
    have B4 : Hid (Below w.heap.size w w4) := B3.out.trans (hb.mono B3.out.size)
    have f1 := O4.out.c1
    clear hb O3 U3
    go_wp2_with fail
    refine (readN _ w4 s (awakeUD U4.out) (hasUD U4.out s)).mono ?_
    rintro e w5 ⟨rfl, hb⟩
    have O5 := Lib.hid (O4.out.below hb)
    have U5 := Lib.hid (U4.out.below hb)
    have B5 : Hid (Below w.heap.size w w5) := B4.out.trans (hb.mono B4.out.size)
    clear hb O4 U4 f1
    have f1 := O5.out.c1
    go_wp2_with fail
    refine (sureN w5 s).mono ?_
    rintro e w' ⟨rfl, rfl⟩
    go_wp2_with fail
    refine (regUD U5.out).mono ?_
    rintro e w6 ⟨rfl, hb⟩
    have O6 := Lib.hid (O5.out.below hb)
    have U6 := Lib.hid (U5.out.below hb)
    have B6 : Hid (Below w.heap.size w w6) := B5.out.trans (hb.mono B5.out.size)
    clear hb O5 U5 f1
    have hz44 := zero44
    have IZ : Hid ((Try.prog.info? 44).map (·.size) = some zer64.size) := info44s.trans (by rfl)
    have ON : Hid (zer64.all (·.oneCell') = true) := by show _ = _; decide +kernel
    generalize zer64 = A at *
    have G6 : Hid ((w6.alloc (.cells A 44)).heap[w6.heap.size]? = some (.cells A 44 (0, 0))) := heap_alloc_new _ _
    go_wp2_with (refine wpList_store_row rfl 44 (.tmp 11) (.tmp 40) rfl w6.heap.size A rfl rfl 44 A G6.out IZ.out rfl ON.out ?_)
    rw [alloc_setRow]
    obtain ⟨w7, hw7⟩ : ∃ w7, w7 = w6.alloc (.cells A 44) := ⟨_, rfl⟩
    have b67 : Below w6.heap.size w6 w7 := by rw [hw7]; exact (Below.refl _ _).alloc (Nat.le_refl _) _
    have O7 := Lib.hid (O6.out.below b67)
    have U7 := Lib.hid (U6.out.below b67)
    have B7 : Hid (Below w.heap.size w w7) := B6.out.trans (b67.mono B6.out.size)
    have f1 := O7.out.c1
    have f3 := O7.out.c3
    have f4 := O7.out.c4
    have HW7 := Lib.hid hw7
    rw [← hw7]
    clear hw7 b67 O6 U6 G6 IZ ON f1 f3 f4
    refine wp_region_held_drew (S := fun W => Below w7.heap.size w7 W) (by kernel_rfl) ((Below.refl _ _).drew) (fun hS => ?_)
    refine' wpAnyH_take (i := 0) ?h1x0z ?hsx0z ?hfx0z ?hrx0z ?hQx0z (Or.inl ⟨?hwx0z, ?hyx0z⟩) hS ?restx0z
    case h1x0z => (simp only [List.getElem?_toArray, List.getElem?_cons_zero]; rfl)
    case hsx0z => kernel_rfl
    case hfx0z => kernel_rfl
    case hrx0z => kernel_rfl
    case hQx0z => exact fun _ _ _ h => h
    case hwx0z => rfl
    case hyx0z =>
      intro W hW
      go_simp
      try with_reducible rfl
    simp only [Act.put, List.setIfInBounds_toArray, List.set_cons_succ, List.set_cons_zero]
    refine' wpAnyH_take (i := 1) ?h1x1z ?hsx1z ?hfx1z ?hrx1z ?hQx1z (Or.inl ⟨?hwx1z, ?hyx1z⟩) hS ?restx1z
    case h1x1z => (simp only [List.getElem?_toArray, List.getElem?_cons_succ, List.getElem?_cons_zero]; rfl)
    case hsx1z => kernel_rfl
    case hfx1z => kernel_rfl
    case hrx1z => kernel_rfl
    case hQx1z => exact fun _ _ _ h => h
    case hwx1z => rfl
    case hyx1z =>
      intro W hW
      go_simp
      try with_reducible rfl
    simp only [Act.put, List.setIfInBounds_toArray, List.set_cons_succ, List.set_cons_zero]
    refine' wpAnyH_take (i := 2) ?h1x2z ?hsx2z ?hfx2z ?hrx2z ?hQx2z (Or.inl ⟨?hwx2z, ?hyx2z⟩) hS ?restx2z
    case h1x2z => (simp only [List.getElem?_toArray, List.getElem?_cons_succ, List.getElem?_cons_zero]; rfl)
    case hsx2z => kernel_rfl
    case hfx2z => kernel_rfl
    case hrx2z => kernel_rfl
    case hQx2z => exact fun _ _ _ h => h
    case hwx2z => rfl
    case hyx2z =>
      intro W hW
      have dd := (O7.out.below hW).c1
      go_simp
      try with_reducible rfl
    simp only [Act.put, List.setIfInBounds_toArray, List.set_cons_succ, List.set_cons_zero]
    refine' wpAnyH_take (i := 5) ?h1x5z ?hsx5z ?hfx5z ?hrx5z ?hQx5z (Or.inl ⟨?hwx5z, ?hyx5z⟩) hS ?restx5z
    case h1x5z => (simp only [List.getElem?_toArray, List.getElem?_cons_succ, List.getElem?_cons_zero]; rfl)
    case hsx5z => kernel_rfl
    case hfx5z => kernel_rfl
    case hrx5z => kernel_rfl
    case hQx5z => exact fun _ _ _ h => h
    case hwx5z => rfl
    case hyx5z =>
      intro W hW
      go_simp
      try with_reducible rfl
    simp only [Act.put, List.setIfInBounds_toArray, List.set_cons_succ, List.set_cons_zero]
    refine' wpAnyH_take (i := 6) ?h1x6z ?hsx6z ?hfx6z ?hrx6z ?hQx6z (Or.inl ⟨?hwx6z, ?hyx6z⟩) hS ?restx6z
    case h1x6z => (simp only [List.getElem?_toArray, List.getElem?_cons_succ, List.getElem?_cons_zero]; rfl)
    case hsx6z => kernel_rfl
    case hfx6z => kernel_rfl
    case hrx6z => kernel_rfl
    case hQx6z => exact fun _ _ _ h => h
    case hwx6z => rfl
    case hyx6z =>
      intro W hW
      go_simp
      try with_reducible rfl
    simp only [Act.put, List.setIfInBounds_toArray, List.set_cons_succ, List.set_cons_zero]
    refine' wpAnyH_take (i := 8) ?h1x8z ?hsx8z ?hfx8z ?hrx8z ?hQx8z (Or.inl ⟨?hwx8z, ?hyx8z⟩) hS ?restx8z
    case h1x8z => (simp only [List.getElem?_toArray, List.getElem?_cons_succ, List.getElem?_cons_zero]; rfl)
    case hsx8z => kernel_rfl
    case hfx8z => kernel_rfl
    case hrx8z => kernel_rfl
    case hQx8z => exact fun _ _ _ h => h
    case hwx8z => rfl
    case hyx8z =>
      intro W hW
      go_simp
      try with_reducible rfl
    simp only [Act.put, List.setIfInBounds_toArray, List.set_cons_succ, List.set_cons_zero]
    refine' wpAnyH_take (i := 9) ?h1x9z ?hsx9z ?hfx9z ?hrx9z ?hQx9z (Or.inl ⟨?hwx9z, ?hyx9z⟩) hS ?restx9z
    case h1x9z => (simp only [List.getElem?_toArray, List.getElem?_cons_succ, List.getElem?_cons_zero]; rfl)
    case hsx9z => kernel_rfl
    case hfx9z => kernel_rfl
    case hrx9z => kernel_rfl
    case hQx9z => exact fun _ _ _ h => h
    case hwx9z => rfl
    case hyx9z =>
      intro W hW
      have dd := (O7.out.below hW).c3
      go_simp
      try with_reducible rfl
    simp only [Act.put, List.setIfInBounds_toArray, List.set_cons_succ, List.set_cons_zero]
    refine' wpAnyH_take (i := 11) ?h1x11z ?hsx11z ?hfx11z ?hrx11z ?hQx11z (Or.inl ⟨?hwx11z, ?hyx11z⟩) hS ?restx11z
    case h1x11z => (simp only [List.getElem?_toArray, List.getElem?_cons_succ, List.getElem?_cons_zero]; rfl)
    case hsx11z => kernel_rfl
    case hfx11z => kernel_rfl
    case hrx11z => kernel_rfl
    case hQx11z => exact fun _ _ _ h => h
    case hwx11z => rfl
    case hyx11z =>
      intro W hW
      go_simp
      try with_reducible rfl
    simp only [Act.put, List.setIfInBounds_toArray, List.set_cons_succ, List.set_cons_zero]
    refine' wpAnyH_take (i := 12) ?h1x12z ?hsx12z ?hfx12z ?hrx12z ?hQx12z (Or.inl ⟨?hwx12z, ?hyx12z⟩) hS ?restx12z
    case h1x12z => (simp only [List.getElem?_toArray, List.getElem?_cons_succ, List.getElem?_cons_zero]; rfl)
    case hsx12z => kernel_rfl
    case hfx12z => kernel_rfl
    case hrx12z => kernel_rfl
    case hQx12z => exact fun _ _ _ h => h
    case hwx12z => rfl
    case hyx12z =>
      intro W hW
      go_simp
      try with_reducible rfl
    simp only [Act.put, List.setIfInBounds_toArray, List.set_cons_succ, List.set_cons_zero]
    refine' wpAnyH_take (i := 13) ?h1x13z ?hsx13z ?hfx13z ?hrx13z ?hQx13z (Or.inl ⟨?hwx13z, ?hyx13z⟩) hS ?restx13z
    case h1x13z => (simp only [List.getElem?_toArray, List.getElem?_cons_succ, List.getElem?_cons_zero]; rfl)
    case hsx13z => kernel_rfl
    case hfx13z => kernel_rfl
    case hrx13z => kernel_rfl
    case hQx13z => exact fun _ _ _ h => h
    case hwx13z => rfl
    case hyx13z =>
      intro W hW
      have dd := (O7.out.below hW).c4
      go_simp
      try with_reducible rfl
    simp only [Act.put, List.setIfInBounds_toArray, List.set_cons_succ, List.set_cons_zero]
    refine' wpAnyH_take (i := 15) ?h1x15z ?hsx15z ?hfx15z ?hrx15z ?hQx15z (Or.inl ⟨?hwx15z, ?hyx15z⟩) hS ?restx15z
    case h1x15z => (simp only [List.getElem?_toArray, List.getElem?_cons_succ, List.getElem?_cons_zero]; rfl)
    case hsx15z => kernel_rfl
    case hfx15z => kernel_rfl
    case hrx15z => kernel_rfl
    case hQx15z => exact fun _ _ _ h => h
    case hwx15z => rfl
    case hyx15z =>
      intro W hW
      go_simp
      try with_reducible rfl
    simp only [Act.put, List.setIfInBounds_toArray, List.set_cons_succ, List.set_cons_zero]
    refine' wpAnyH_take (i := 16) ?h1x16z ?hsx16z ?hfx16z ?hrx16z ?hQx16z (Or.inl ⟨?hwx16z, ?hyx16z⟩) hS ?restx16z
    case h1x16z => (simp only [List.getElem?_toArray, List.getElem?_cons_succ, List.getElem?_cons_zero]; rfl)
    case hsx16z => kernel_rfl
    case hfx16z => kernel_rfl
    case hrx16z => kernel_rfl
    case hQx16z => exact fun _ _ _ h => h
    case hwx16z => rfl
    case hyx16z =>
      intro W hW
      have dd := (O7.out.below hW).c1
      go_simp
      try with_reducible rfl
    simp only [Act.put, List.setIfInBounds_toArray, List.set_cons_succ, List.set_cons_zero]
    generalize w7.drew = wd at *
    refine wpAnyH_ready (rs := [3, 19]) (by kernel_rfl) (by simp) ?_
    refine' (AllReadyH.cons ?hoc3z (fun K hK => ?stc3z) (AllReadyH.cons ?hoc19z (fun K hK => ?stc19z) AllReadyH.nil))
    case hoc3z => (simp only [List.getElem?_toArray, List.getElem?_cons_succ, List.getElem?_cons_zero]; rfl)
    case hoc19z => (simp only [List.getElem?_toArray, List.getElem?_cons_succ, List.getElem?_cons_zero]; rfl)
    case stc3z =>
      go_simp
      refine (writeN _ s).mono ?_
      rintro e w3z ⟨rfl, hb⟩
      go_wp2_with fail
      refine hK.out _ _ (on7 hS hb) (fun hHeld => ?_)
      clear hK K
      try simp only [Act.put, List.setIfInBounds_toArray, List.set_cons_succ, List.set_cons_zero]
      clear hS hb
      have hS := hHeld
      clear hHeld
      refine wpAnyH_ready (rs := [4, 19]) (by kernel_rfl) (by simp) ?_
      refine' (AllReadyH.cons ?hoc4zc0 (fun K hK => ?stc4zc0) (AllReadyH.cons ?hoc19zc0 (fun K hK => ?stc19zc0) AllReadyH.nil))
      case hoc4zc0 => (simp only [List.getElem?_toArray, List.getElem?_cons_succ, List.getElem?_cons_zero]; rfl)
      case hoc19zc0 => (simp only [List.getElem?_toArray, List.getElem?_cons_succ, List.getElem?_cons_zero]; rfl)
      case stc4zc0 =>
        go_simp
        refine (flushUD (U7.out.below hS)).mono ?_
        rintro e w' ⟨rfl, rfl⟩
        go_wp2_with fail
        refine hK.out _ _ hS (fun hHeld => ?_)
        clear hK K hHeld
        try simp only [Act.put]
        refine wpAnyH_ready (rs := [7, 19]) (by kernel_rfl) (by simp) ?_
        refine' (AllReadyH.cons ?hoc7zc0c1 (fun K hK => ?stc7zc0c1) (AllReadyH.cons ?hoc19zc0c1 (fun K hK => ?stc19zc0c1) AllReadyH.nil))
        case hoc7zc0c1 => (simp only [List.getElem?_toArray, List.getElem?_cons_succ, List.getElem?_cons_zero]; rfl)
        case hoc19zc0c1 => (simp only [List.getElem?_toArray, List.getElem?_cons_succ, List.getElem?_cons_zero]; rfl)
        case stc7zc0c1 =>
          go_simp
          refine (setregN _ _).mono ?_
          rintro e w7zc0c1 ⟨rfl, hb⟩
          go_wp2_with fail
          refine hK.out _ _ (on7 hS hb) (fun hHeld => ?_)
          clear hK K
          try simp only [Act.put, List.setIfInBounds_toArray, List.set_cons_succ, List.set_cons_zero]
          clear hS hb
          have hS := hHeld
          clear hHeld
          refine wpAnyH_ready (rs := [10, 19]) (by kernel_rfl) (by simp) ?_
          refine' (AllReadyH.cons ?hoc10zc0c1c2 (fun K hK => ?stc10zc0c1c2) (AllReadyH.cons ?hoc19zc0c1c2 (fun K hK => ?stc19zc0c1c2) AllReadyH.nil))
          case hoc10zc0c1c2 => (simp only [List.getElem?_toArray, List.getElem?_cons_succ, List.getElem?_cons_zero]; rfl)
          case hoc19zc0c1c2 => (simp only [List.getElem?_toArray, List.getElem?_cons_succ, List.getElem?_cons_zero]; rfl)
          case stc10zc0c1c2 =>
            go_simp
            refine (failUD (U7.out.below hS) n).mono ?_
            rintro e w' ⟨rfl, rfl⟩
            go_wp2_with fail
            refine hK.out _ _ hS (fun hHeld => ?_)
            clear hK K hHeld
            try simp only [Act.put]
            refine wpAnyH_ready (rs := [14, 19]) (by kernel_rfl) (by simp) ?_
            refine' (AllReadyH.cons ?hoc14zc0c1c2c3 (fun K hK => ?stc14zc0c1c2c3) (AllReadyH.cons ?hoc19zc0c1c2c3 (fun K hK => ?stc19zc0c1c2c3) AllReadyH.nil))
            case hoc14zc0c1c2c3 => (simp only [List.getElem?_toArray, List.getElem?_cons_succ, List.getElem?_cons_zero]; rfl)
            case hoc19zc0c1c2c3 => (simp only [List.getElem?_toArray, List.getElem?_cons_succ, List.getElem?_cons_zero]; rfl)
            case stc14zc0c1c2c3 =>
              go_simp
              refine (crashN x l c _).mono ?_
              rintro e w14zc0c1c2c3 ⟨rfl, hb⟩
              go_wp2_with fail
              refine hK.out _ _ (on7 hS hb) (fun hHeld => ?_)
              clear hK K
              try simp only [Act.put, List.setIfInBounds_toArray, List.set_cons_succ, List.set_cons_zero]
              clear hS hb
              have hS := hHeld
              clear hHeld
              refine wpAnyH_ready (rs := [17, 19]) (by kernel_rfl) (by simp) ?_
              refine' (AllReadyH.cons ?hoc17zc0c1c2c3c4 (fun K hK => ?stc17zc0c1c2c3c4) (AllReadyH.cons ?hoc19zc0c1c2c3c4 (fun K hK => ?stc19zc0c1c2c3c4) AllReadyH.nil))
              case hoc17zc0c1c2c3c4 => (simp only [List.getElem?_toArray, List.getElem?_cons_succ, List.getElem?_cons_zero]; rfl)
              case hoc19zc0c1c2c3c4 => (simp only [List.getElem?_toArray, List.getElem?_cons_succ, List.getElem?_cons_zero]; rfl)
              case stc17zc0c1c2c3c4 =>
                go_simp
                refine (tamperUD (U7.out.below hS) s).mono ?_
                rintro e w17zc0c1c2c3c4 ⟨rfl, hb⟩
                go_wp2_with fail
                refine hK.out _ _ (on7 hS hb) (fun hHeld => ?_)
                clear hK K
                try simp only [Act.put, List.setIfInBounds_toArray, List.set_cons_succ, List.set_cons_zero]
                clear hS hb
                have hS := hHeld
                clear hHeld
                refine' wpAnyH_take (i := 18) ?h1x18zc0c1c2c3c4c5 ?hsx18zc0c1c2c3c4c5 ?hfx18zc0c1c2c3c4c5 ?hrx18zc0c1c2c3c4c5 ?hQx18zc0c1c2c3c4c5 (Or.inl ⟨?hwx18zc0c1c2c3c4c5, ?hyx18zc0c1c2c3c4c5⟩) hS ?restx18zc0c1c2c3c4c5
                case h1x18zc0c1c2c3c4c5 => (simp only [List.getElem?_toArray, List.getElem?_cons_succ, List.getElem?_cons_zero]; rfl)
                case hsx18zc0c1c2c3c4c5 => kernel_rfl
                case hfx18zc0c1c2c3c4c5 => kernel_rfl
                case hrx18zc0c1c2c3c4c5 => kernel_rfl
                case hQx18zc0c1c2c3c4c5 => exact fun _ _ _ h => h
                case hwx18zc0c1c2c3c4c5 => rfl
                case hyx18zc0c1c2c3c4c5 =>
                  intro W hW
                  go_simp
                  try with_reducible rfl
                simp only [Act.put, List.setIfInBounds_toArray, List.set_cons_succ, List.set_cons_zero]
                refine wpAnyH_ready (rs := [19]) (by kernel_rfl) (by simp) ?_
                refine' AllReadyH.cons ?hoc19zc0c1c2c3c4c5 (fun K hK => ?stc19zc0c1c2c3c4c5) AllReadyH.nil
                case hoc19zc0c1c2c3c4c5 => (simp only [List.getElem?_toArray, List.getElem?_cons_succ, List.getElem?_cons_zero]; rfl)
                go_simp
                obtain ⟨r, hr⟩ : ∃ r, r = w17zc0c1c2c3c4.heap.size := ⟨_, rfl⟩
                obtain ⟨wa, hwa⟩ : ∃ wa, wa = w17zc0c1c2c3c4.alloc (.cells #[.int .i64 0, .int .i64 0, .int .i64 0, .int .i64 0, .int .i64 0, .int .i64 0] 57) := ⟨_, rfl⟩
                have hba : Below w17zc0c1c2c3c4.heap.size w17zc0c1c2c3c4 wa := by rw [hwa]; exact (Below.refl _ _).alloc (Nat.le_refl _) _
                have hRow : wa.heap[r]? = some (.cells #[.int .i64 0, .int .i64 0, .int .i64 0, .int .i64 0, .int .i64 0, .int .i64 0] 57 (0, 0)) := by rw [hwa, hr]; exact heap_alloc_new _ _
                have hr7 : w7.heap.size ≤ r := by rw [hr]; exact hS.size
                rw [← hwa, ← hr]
                refine hK.out _ _ (on7 hS hba) (fun hHeld => ?_)
                clear hK K hwa hba hr
                try simp only [Act.put, List.setIfInBounds_toArray, List.set_cons_succ, List.set_cons_zero]
                clear hS
                have hS := hHeld
                clear hHeld
                refine wpAnyH_ready (rs := [20]) (by kernel_rfl) (by simp) ?_
                refine' AllReadyH.cons ?hoc20zc0c1c2c3c4c5 (fun K hK => ?stc20zc0c1c2c3c4c5) AllReadyH.nil
                case hoc20zc0c1c2c3c4c5 => (simp only [List.getElem?_toArray, List.getElem?_cons_succ, List.getElem?_cons_zero]; rfl)
                refine step_store_row rfl 57 (.tmp 13) (.tmp 60) rfl r #[.int .i64 6, .int .i64 6, .int .i64 6, .int .i64 6, .int .i64 6, .int .i64 6] rfl rfl 57 #[.int .i64 0, .int .i64 0, .int .i64 0, .int .i64 0, .int .i64 0, .int .i64 0] hRow info57s rfl (by decide +kernel) ?_
                refine hK.out _ _ (setRow_below r _ hS hr7) (fun hHeld => ?_)
                clear hK K hHeld
                try simp only [Act.put]
                refine wpAnyH_done (by kernel_rfl) ?_ _
                have hfin := setRow_below r #[.int .i64 6, .int .i64 6, .int .i64 6, .int .i64 6, .int .i64 6, .int .i64 6] hS hr7
                have hrow := setRow_at _ r 57 #[.int .i64 0, .int .i64 0, .int .i64 0, .int .i64 0, .int .i64 0, .int .i64 0] #[.int .i64 6, .int .i64 6, .int .i64 6, .int .i64 6, .int .i64 6, .int .i64 6] hRow
                generalize World.setRow _ r #[.int .i64 6, .int .i64 6, .int .i64 6, .int .i64 6, .int .i64 6, .int .i64 6] = W9 at hfin hrow ⊢
                have UW := Lib.hid (U7.out.below hfin)
                have BW : Hid (Below w.heap.size w W9) := B7.out.trans (hfin.mono B7.out.size)
                have RW := Lib.hid hrow
                clear hfin hrow hS hRow hr7
                go_wp2_with fail
                go_loopg [14] 6 (fun rr vi wr => ∃ i : Nat, rr + i = 6 ∧ vi = .int .i64 i ∧ W9 = wr)
                case atStart => exact ⟨0, rfl, rfl, rfl⟩
                case round =>
                  obtain ⟨i, hr, rfl, rfl⟩ := hrel
                  have HR2 := Lib.hid hr
                  by_cases hi : i < 6
                  · have hc : W9.cell? ⟨r, i, none⟩ = some (.int .i64 6) := by rw [cell_of_row _ _ _ _ _ _ RW.out]; exact six_at i hi
                    have hi2 : (i : Int) < 6 := by omega
                    clear hr
                    go_wp2_with fail
                    go_roundg (6 - (i + 1))
                    case measure => have := HR2.out; omega
                    case rel => exact ⟨i + 1, by omega, by go_num, rfl⟩
                  · have hi2 : ¬ (i : Int) < 6 := by omega
                    clear hr
                    go_wp2_with fail
                    refine (aliveD _).mono ?_
                    rintro e w20 ⟨rfl, hb⟩
                    have U20 := Lib.hid (UW.out.below hb)
                    have B20 : Hid (Below w.heap.size w w20) := BW.out.trans (hb.mono BW.out.size)
                    clear hb
                    go_wp2_with fail
                    refine (sizeD_nil _).mono ?_
                    rintro e w' ⟨rfl, rfl⟩
                    go_wp2_with fail
                    refine (sizeUD U20.out).mono ?_
                    rintro e w' ⟨rfl, rfl⟩
                    go_wp2_with fail
                    refine (waitsD_nil _).mono ?_
                    rintro e w' ⟨rfl, rfl⟩
                    go_wp2_with fail
                    refine (callsUD U20.out).mono ?_
                    rintro e w' ⟨rfl, rfl⟩
                    go_wp2_with fail
                    refine (downD_nil _).mono ?_
                    rintro e w' ⟨rfl, rfl⟩
                    go_wp2_with fail
                    refine (downUD U20.out).mono ?_
                    rintro e w' ⟨rfl, rfl⟩
                    go_wp2_with fail
                    go_ret
                    exact ⟨rfl, B20.out⟩
              case stc19zc0c1c2c3c4 =>
                go_simp
                obtain ⟨r, hr⟩ : ∃ r, r = w14zc0c1c2c3.heap.size := ⟨_, rfl⟩
                obtain ⟨wa, hwa⟩ : ∃ wa, wa = w14zc0c1c2c3.alloc (.cells #[.int .i64 0, .int .i64 0, .int .i64 0, .int .i64 0, .int .i64 0, .int .i64 0] 57) := ⟨_, rfl⟩
                have hba : Below w14zc0c1c2c3.heap.size w14zc0c1c2c3 wa := by rw [hwa]; exact (Below.refl _ _).alloc (Nat.le_refl _) _
                have hRow : wa.heap[r]? = some (.cells #[.int .i64 0, .int .i64 0, .int .i64 0, .int .i64 0, .int .i64 0, .int .i64 0] 57 (0, 0)) := by rw [hwa, hr]; exact heap_alloc_new _ _
                have hr7 : w7.heap.size ≤ r := by rw [hr]; exact hS.size
                rw [← hwa, ← hr]
                refine hK.out _ _ (on7 hS hba) (fun hHeld => ?_)
                clear hK K hwa hba hr
                try simp only [Act.put, List.setIfInBounds_toArray, List.set_cons_succ, List.set_cons_zero]
                clear hS
                have hS := hHeld
                clear hHeld
                refine wpAnyH_ready (rs := [17]) (by kernel_rfl) (by simp) ?_
                refine' AllReadyH.cons ?hoc17zc0c1c2c3c4a5 (fun K hK => ?stc17zc0c1c2c3c4a5) AllReadyH.nil
                case hoc17zc0c1c2c3c4a5 => (simp only [List.getElem?_toArray, List.getElem?_cons_succ, List.getElem?_cons_zero]; rfl)
                go_simp
                refine (tamperUD (U7.out.below hS) s).mono ?_
                rintro e w17zc0c1c2c3c4a5 ⟨rfl, hb⟩
                go_wp2_with fail
                refine hK.out _ _ (on7 hS hb) (fun hHeld => ?_)
                clear hK K
                try simp only [Act.put, List.setIfInBounds_toArray, List.set_cons_succ, List.set_cons_zero]
                have hRow := (hb.block r (Array.getElem?_eq_some_iff.1 hRow).1).trans hRow
                clear hS hb
                have hS := hHeld
                clear hHeld
                refine' wpAnyH_take (i := 18) ?h1x18zc0c1c2c3c4a5c5 ?hsx18zc0c1c2c3c4a5c5 ?hfx18zc0c1c2c3c4a5c5 ?hrx18zc0c1c2c3c4a5c5 ?hQx18zc0c1c2c3c4a5c5 (Or.inl ⟨?hwx18zc0c1c2c3c4a5c5, ?hyx18zc0c1c2c3c4a5c5⟩) hS ?restx18zc0c1c2c3c4a5c5
                case h1x18zc0c1c2c3c4a5c5 => (simp only [List.getElem?_toArray, List.getElem?_cons_succ, List.getElem?_cons_zero]; rfl)
                case hsx18zc0c1c2c3c4a5c5 => kernel_rfl
                case hfx18zc0c1c2c3c4a5c5 => kernel_rfl
                case hrx18zc0c1c2c3c4a5c5 => kernel_rfl
                case hQx18zc0c1c2c3c4a5c5 => exact fun _ _ _ h => h
                case hwx18zc0c1c2c3c4a5c5 => rfl
                case hyx18zc0c1c2c3c4a5c5 =>
                  intro W hW
                  go_simp
                  try with_reducible rfl
                simp only [Act.put, List.setIfInBounds_toArray, List.set_cons_succ, List.set_cons_zero]
                refine wpAnyH_ready (rs := [20]) (by kernel_rfl) (by simp) ?_
                refine' AllReadyH.cons ?hoc20zc0c1c2c3c4a5c5 (fun K hK => ?stc20zc0c1c2c3c4a5c5) AllReadyH.nil
                case hoc20zc0c1c2c3c4a5c5 => (simp only [List.getElem?_toArray, List.getElem?_cons_succ, List.getElem?_cons_zero]; rfl)
                refine step_store_row rfl 57 (.tmp 13) (.tmp 60) rfl r #[.int .i64 6, .int .i64 6, .int .i64 6, .int .i64 6, .int .i64 6, .int .i64 6] rfl rfl 57 #[.int .i64 0, .int .i64 0, .int .i64 0, .int .i64 0, .int .i64 0, .int .i64 0] hRow info57s rfl (by decide +kernel) ?_
                refine hK.out _ _ (setRow_below r _ hS hr7) (fun hHeld => ?_)
                clear hK K hHeld
                try simp only [Act.put]
                refine wpAnyH_done (by kernel_rfl) ?_ _
                have hfin := setRow_below r #[.int .i64 6, .int .i64 6, .int .i64 6, .int .i64 6, .int .i64 6, .int .i64 6] hS hr7
                have hrow := setRow_at _ r 57 #[.int .i64 0, .int .i64 0, .int .i64 0, .int .i64 0, .int .i64 0, .int .i64 0] #[.int .i64 6, .int .i64 6, .int .i64 6, .int .i64 6, .int .i64 6, .int .i64 6] hRow
                generalize World.setRow _ r #[.int .i64 6, .int .i64 6, .int .i64 6, .int .i64 6, .int .i64 6, .int .i64 6] = W9 at hfin hrow ⊢
                have UW := Lib.hid (U7.out.below hfin)
                have BW : Hid (Below w.heap.size w W9) := B7.out.trans (hfin.mono B7.out.size)
                have RW := Lib.hid hrow
                clear hfin hrow hS hRow hr7
                go_wp2_with fail
                go_loopg [14] 6 (fun rr vi wr => ∃ i : Nat, rr + i = 6 ∧ vi = .int .i64 i ∧ W9 = wr)
                case atStart => exact ⟨0, rfl, rfl, rfl⟩
                case round =>
                  obtain ⟨i, hr, rfl, rfl⟩ := hrel
                  have HR2 := Lib.hid hr
                  by_cases hi : i < 6
                  · have hc : W9.cell? ⟨r, i, none⟩ = some (.int .i64 6) := by rw [cell_of_row _ _ _ _ _ _ RW.out]; exact six_at i hi
                    have hi2 : (i : Int) < 6 := by omega
                    clear hr
                    go_wp2_with fail
                    go_roundg (6 - (i + 1))
                    case measure => have := HR2.out; omega
                    case rel => exact ⟨i + 1, by omega, by go_num, rfl⟩
                  · have hi2 : ¬ (i : Int) < 6 := by omega
                    clear hr
                    go_wp2_with fail
                    refine (aliveD _).mono ?_
                    rintro e w20 ⟨rfl, hb⟩
                    have U20 := Lib.hid (UW.out.below hb)
                    have B20 : Hid (Below w.heap.size w w20) := BW.out.trans (hb.mono BW.out.size)
                    clear hb
                    go_wp2_with fail
                    refine (sizeD_nil _).mono ?_
                    rintro e w' ⟨rfl, rfl⟩
                    go_wp2_with fail
                    refine (sizeUD U20.out).mono ?_
                    rintro e w' ⟨rfl, rfl⟩
                    go_wp2_with fail
                    refine (waitsD_nil _).mono ?_
                    rintro e w' ⟨rfl, rfl⟩
                    go_wp2_with fail
                    refine (callsUD U20.out).mono ?_
                    rintro e w' ⟨rfl, rfl⟩
                    go_wp2_with fail
                    refine (downD_nil _).mono ?_
                    rintro e w' ⟨rfl, rfl⟩
                    go_wp2_with fail
                    refine (downUD U20.out).mono ?_
                    rintro e w' ⟨rfl, rfl⟩
                    go_wp2_with fail
                    go_ret
                    exact ⟨rfl, B20.out⟩
            case stc19zc0c1c2c3 =>
              go_simp
              obtain ⟨r, hr⟩ : ∃ r, r = w7zc0c1.heap.size := ⟨_, rfl⟩
              obtain ⟨wa, hwa⟩ : ∃ wa, wa = w7zc0c1.alloc (.cells #[.int .i64 0, .int .i64 0, .int .i64 0, .int .i64 0, .int .i64 0, .int .i64 0] 57) := ⟨_, rfl⟩
              have hba : Below w7zc0c1.heap.size w7zc0c1 wa := by rw [hwa]; exact (Below.refl _ _).alloc (Nat.le_refl _) _
              have hRow : wa.heap[r]? = some (.cells #[.int .i64 0, .int .i64 0, .int .i64 0, .int .i64 0, .int .i64 0, .int .i64 0] 57 (0, 0)) := by rw [hwa, hr]; exact heap_alloc_new _ _
              have hr7 : w7.heap.size ≤ r := by rw [hr]; exact hS.size
              rw [← hwa, ← hr]
              refine hK.out _ _ (on7 hS hba) (fun hHeld => ?_)
              clear hK K hwa hba hr
              try simp only [Act.put, List.setIfInBounds_toArray, List.set_cons_succ, List.set_cons_zero]
              clear hS
              have hS := hHeld
              clear hHeld
              refine wpAnyH_ready (rs := [14]) (by kernel_rfl) (by simp) ?_
              refine' AllReadyH.cons ?hoc14zc0c1c2c3a4 (fun K hK => ?stc14zc0c1c2c3a4) AllReadyH.nil
              case hoc14zc0c1c2c3a4 => (simp only [List.getElem?_toArray, List.getElem?_cons_succ, List.getElem?_cons_zero]; rfl)
              go_simp
              refine (crashN x l c _).mono ?_
              rintro e w14zc0c1c2c3a4 ⟨rfl, hb⟩
              go_wp2_with fail
              refine hK.out _ _ (on7 hS hb) (fun hHeld => ?_)
              clear hK K
              try simp only [Act.put, List.setIfInBounds_toArray, List.set_cons_succ, List.set_cons_zero]
              have hRow := (hb.block r (Array.getElem?_eq_some_iff.1 hRow).1).trans hRow
              clear hS hb
              have hS := hHeld
              clear hHeld
              refine wpAnyH_ready (rs := [17]) (by kernel_rfl) (by simp) ?_
              refine' AllReadyH.cons ?hoc17zc0c1c2c3a4c4 (fun K hK => ?stc17zc0c1c2c3a4c4) AllReadyH.nil
              case hoc17zc0c1c2c3a4c4 => (simp only [List.getElem?_toArray, List.getElem?_cons_succ, List.getElem?_cons_zero]; rfl)
              go_simp
              refine (tamperUD (U7.out.below hS) s).mono ?_
              rintro e w17zc0c1c2c3a4c4 ⟨rfl, hb⟩
              go_wp2_with fail
              refine hK.out _ _ (on7 hS hb) (fun hHeld => ?_)
              clear hK K
              try simp only [Act.put, List.setIfInBounds_toArray, List.set_cons_succ, List.set_cons_zero]
              have hRow := (hb.block r (Array.getElem?_eq_some_iff.1 hRow).1).trans hRow
              clear hS hb
              have hS := hHeld
              clear hHeld
              refine' wpAnyH_take (i := 18) ?h1x18zc0c1c2c3a4c4c5 ?hsx18zc0c1c2c3a4c4c5 ?hfx18zc0c1c2c3a4c4c5 ?hrx18zc0c1c2c3a4c4c5 ?hQx18zc0c1c2c3a4c4c5 (Or.inl ⟨?hwx18zc0c1c2c3a4c4c5, ?hyx18zc0c1c2c3a4c4c5⟩) hS ?restx18zc0c1c2c3a4c4c5
              case h1x18zc0c1c2c3a4c4c5 => (simp only [List.getElem?_toArray, List.getElem?_cons_succ, List.getElem?_cons_zero]; rfl)
              case hsx18zc0c1c2c3a4c4c5 => kernel_rfl
              case hfx18zc0c1c2c3a4c4c5 => kernel_rfl
              case hrx18zc0c1c2c3a4c4c5 => kernel_rfl
              case hQx18zc0c1c2c3a4c4c5 => exact fun _ _ _ h => h
              case hwx18zc0c1c2c3a4c4c5 => rfl
              case hyx18zc0c1c2c3a4c4c5 =>
                intro W hW
                go_simp
                try with_reducible rfl
              simp only [Act.put, List.setIfInBounds_toArray, List.set_cons_succ, List.set_cons_zero]
              refine wpAnyH_ready (rs := [20]) (by kernel_rfl) (by simp) ?_
              refine' AllReadyH.cons ?hoc20zc0c1c2c3a4c4c5 (fun K hK => ?stc20zc0c1c2c3a4c4c5) AllReadyH.nil
              case hoc20zc0c1c2c3a4c4c5 => (simp only [List.getElem?_toArray, List.getElem?_cons_succ, List.getElem?_cons_zero]; rfl)
              refine step_store_row rfl 57 (.tmp 13) (.tmp 60) rfl r #[.int .i64 6, .int .i64 6, .int .i64 6, .int .i64 6, .int .i64 6, .int .i64 6] rfl rfl 57 #[.int .i64 0, .int .i64 0, .int .i64 0, .int .i64 0, .int .i64 0, .int .i64 0] hRow info57s rfl (by decide +kernel) ?_
              refine hK.out _ _ (setRow_below r _ hS hr7) (fun hHeld => ?_)
              clear hK K hHeld
              try simp only [Act.put]
              refine wpAnyH_done (by kernel_rfl) ?_ _
              have hfin := setRow_below r #[.int .i64 6, .int .i64 6, .int .i64 6, .int .i64 6, .int .i64 6, .int .i64 6] hS hr7
              have hrow := setRow_at _ r 57 #[.int .i64 0, .int .i64 0, .int .i64 0, .int .i64 0, .int .i64 0, .int .i64 0] #[.int .i64 6, .int .i64 6, .int .i64 6, .int .i64 6, .int .i64 6, .int .i64 6] hRow
              generalize World.setRow _ r #[.int .i64 6, .int .i64 6, .int .i64 6, .int .i64 6, .int .i64 6, .int .i64 6] = W9 at hfin hrow ⊢
              have UW := Lib.hid (U7.out.below hfin)
              have BW : Hid (Below w.heap.size w W9) := B7.out.trans (hfin.mono B7.out.size)
              have RW := Lib.hid hrow
              clear hfin hrow hS hRow hr7
              go_wp2_with fail
              go_loopg [14] 6 (fun rr vi wr => ∃ i : Nat, rr + i = 6 ∧ vi = .int .i64 i ∧ W9 = wr)
              case atStart => exact ⟨0, rfl, rfl, rfl⟩
              case round =>
                obtain ⟨i, hr, rfl, rfl⟩ := hrel
                have HR2 := Lib.hid hr
                by_cases hi : i < 6
                · have hc : W9.cell? ⟨r, i, none⟩ = some (.int .i64 6) := by rw [cell_of_row _ _ _ _ _ _ RW.out]; exact six_at i hi
                  have hi2 : (i : Int) < 6 := by omega
                  clear hr
                  go_wp2_with fail
                  go_roundg (6 - (i + 1))
                  case measure => have := HR2.out; omega
                  case rel => exact ⟨i + 1, by omega, by go_num, rfl⟩
                · have hi2 : ¬ (i : Int) < 6 := by omega
                  clear hr
                  go_wp2_with fail
                  refine (aliveD _).mono ?_
                  rintro e w20 ⟨rfl, hb⟩
                  have U20 := Lib.hid (UW.out.below hb)
                  have B20 : Hid (Below w.heap.size w w20) := BW.out.trans (hb.mono BW.out.size)
                  clear hb
                  go_wp2_with fail
                  refine (sizeD_nil _).mono ?_
                  rintro e w' ⟨rfl, rfl⟩
                  go_wp2_with fail
                  refine (sizeUD U20.out).mono ?_
                  rintro e w' ⟨rfl, rfl⟩
                  go_wp2_with fail
                  refine (waitsD_nil _).mono ?_
                  rintro e w' ⟨rfl, rfl⟩
                  go_wp2_with fail
                  refine (callsUD U20.out).mono ?_
                  rintro e w' ⟨rfl, rfl⟩
                  go_wp2_with fail
                  refine (downD_nil _).mono ?_
                  rintro e w' ⟨rfl, rfl⟩
                  go_wp2_with fail
                  refine (downUD U20.out).mono ?_
                  rintro e w' ⟨rfl, rfl⟩
                  go_wp2_with fail
                  go_ret
                  exact ⟨rfl, B20.out⟩
          case stc19zc0c1c2 =>
            go_simp
            obtain ⟨r, hr⟩ : ∃ r, r = w7zc0c1.heap.size := ⟨_, rfl⟩
            obtain ⟨wa, hwa⟩ : ∃ wa, wa = w7zc0c1.alloc (.cells #[.int .i64 0, .int .i64 0, .int .i64 0, .int .i64 0, .int .i64 0, .int .i64 0] 57) := ⟨_, rfl⟩
            have hba : Below w7zc0c1.heap.size w7zc0c1 wa := by rw [hwa]; exact (Below.refl _ _).alloc (Nat.le_refl _) _
            have hRow : wa.heap[r]? = some (.cells #[.int .i64 0, .int .i64 0, .int .i64 0, .int .i64 0, .int .i64 0, .int .i64 0] 57 (0, 0)) := by rw [hwa, hr]; exact heap_alloc_new _ _
            have hr7 : w7.heap.size ≤ r := by rw [hr]; exact hS.size
            rw [← hwa, ← hr]
            refine hK.out _ _ (on7 hS hba) (fun hHeld => ?_)
            clear hK K hwa hba hr
            try simp only [Act.put, List.setIfInBounds_toArray, List.set_cons_succ, List.set_cons_zero]
            clear hS
            have hS := hHeld
            clear hHeld
            refine wpAnyH_ready (rs := [10]) (by kernel_rfl) (by simp) ?_
            refine' AllReadyH.cons ?hoc10zc0c1c2a3 (fun K hK => ?stc10zc0c1c2a3) AllReadyH.nil
            case hoc10zc0c1c2a3 => (simp only [List.getElem?_toArray, List.getElem?_cons_succ, List.getElem?_cons_zero]; rfl)
            go_simp
            refine (failUD (U7.out.below hS) n).mono ?_
            rintro e w' ⟨rfl, rfl⟩
            go_wp2_with fail
            refine hK.out _ _ hS (fun hHeld => ?_)
            clear hK K hHeld
            try simp only [Act.put]
            refine wpAnyH_ready (rs := [14]) (by kernel_rfl) (by simp) ?_
            refine' AllReadyH.cons ?hoc14zc0c1c2a3c3 (fun K hK => ?stc14zc0c1c2a3c3) AllReadyH.nil
            case hoc14zc0c1c2a3c3 => (simp only [List.getElem?_toArray, List.getElem?_cons_succ, List.getElem?_cons_zero]; rfl)
            go_simp
            refine (crashN x l c _).mono ?_
            rintro e w14zc0c1c2a3c3 ⟨rfl, hb⟩
            go_wp2_with fail
            refine hK.out _ _ (on7 hS hb) (fun hHeld => ?_)
            clear hK K
            try simp only [Act.put, List.setIfInBounds_toArray, List.set_cons_succ, List.set_cons_zero]
            have hRow := (hb.block r (Array.getElem?_eq_some_iff.1 hRow).1).trans hRow
            clear hS hb
            have hS := hHeld
            clear hHeld
            refine wpAnyH_ready (rs := [17]) (by kernel_rfl) (by simp) ?_
            refine' AllReadyH.cons ?hoc17zc0c1c2a3c3c4 (fun K hK => ?stc17zc0c1c2a3c3c4) AllReadyH.nil
            case hoc17zc0c1c2a3c3c4 => (simp only [List.getElem?_toArray, List.getElem?_cons_succ, List.getElem?_cons_zero]; rfl)
            go_simp
            refine (tamperUD (U7.out.below hS) s).mono ?_
            rintro e w17zc0c1c2a3c3c4 ⟨rfl, hb⟩
            go_wp2_with fail
            refine hK.out _ _ (on7 hS hb) (fun hHeld => ?_)
            clear hK K
            try simp only [Act.put, List.setIfInBounds_toArray, List.set_cons_succ, List.set_cons_zero]
            have hRow := (hb.block r (Array.getElem?_eq_some_iff.1 hRow).1).trans hRow
            clear hS hb
            have hS := hHeld
            clear hHeld
            refine' wpAnyH_take (i := 18) ?h1x18zc0c1c2a3c3c4c5 ?hsx18zc0c1c2a3c3c4c5 ?hfx18zc0c1c2a3c3c4c5 ?hrx18zc0c1c2a3c3c4c5 ?hQx18zc0c1c2a3c3c4c5 (Or.inl ⟨?hwx18zc0c1c2a3c3c4c5, ?hyx18zc0c1c2a3c3c4c5⟩) hS ?restx18zc0c1c2a3c3c4c5
            case h1x18zc0c1c2a3c3c4c5 => (simp only [List.getElem?_toArray, List.getElem?_cons_succ, List.getElem?_cons_zero]; rfl)
            case hsx18zc0c1c2a3c3c4c5 => kernel_rfl
            case hfx18zc0c1c2a3c3c4c5 => kernel_rfl
            case hrx18zc0c1c2a3c3c4c5 => kernel_rfl
            case hQx18zc0c1c2a3c3c4c5 => exact fun _ _ _ h => h
            case hwx18zc0c1c2a3c3c4c5 => rfl
            case hyx18zc0c1c2a3c3c4c5 =>
              intro W hW
              go_simp
              try with_reducible rfl
            simp only [Act.put, List.setIfInBounds_toArray, List.set_cons_succ, List.set_cons_zero]
            refine wpAnyH_ready (rs := [20]) (by kernel_rfl) (by simp) ?_
            refine' AllReadyH.cons ?hoc20zc0c1c2a3c3c4c5 (fun K hK => ?stc20zc0c1c2a3c3c4c5) AllReadyH.nil
            case hoc20zc0c1c2a3c3c4c5 => (simp only [List.getElem?_toArray, List.getElem?_cons_succ, List.getElem?_cons_zero]; rfl)
            refine step_store_row rfl 57 (.tmp 13) (.tmp 60) rfl r #[.int .i64 6, .int .i64 6, .int .i64 6, .int .i64 6, .int .i64 6, .int .i64 6] rfl rfl 57 #[.int .i64 0, .int .i64 0, .int .i64 0, .int .i64 0, .int .i64 0, .int .i64 0] hRow info57s rfl (by decide +kernel) ?_
            refine hK.out _ _ (setRow_below r _ hS hr7) (fun hHeld => ?_)
            clear hK K hHeld
            try simp only [Act.put]
            refine wpAnyH_done (by kernel_rfl) ?_ _
            have hfin := setRow_below r #[.int .i64 6, .int .i64 6, .int .i64 6, .int .i64 6, .int .i64 6, .int .i64 6] hS hr7
            have hrow := setRow_at _ r 57 #[.int .i64 0, .int .i64 0, .int .i64 0, .int .i64 0, .int .i64 0, .int .i64 0] #[.int .i64 6, .int .i64 6, .int .i64 6, .int .i64 6, .int .i64 6, .int .i64 6] hRow
            generalize World.setRow _ r #[.int .i64 6, .int .i64 6, .int .i64 6, .int .i64 6, .int .i64 6, .int .i64 6] = W9 at hfin hrow ⊢
            have UW := Lib.hid (U7.out.below hfin)
            have BW : Hid (Below w.heap.size w W9) := B7.out.trans (hfin.mono B7.out.size)
            have RW := Lib.hid hrow
            clear hfin hrow hS hRow hr7
            go_wp2_with fail
            go_loopg [14] 6 (fun rr vi wr => ∃ i : Nat, rr + i = 6 ∧ vi = .int .i64 i ∧ W9 = wr)
            case atStart => exact ⟨0, rfl, rfl, rfl⟩
            case round =>
              obtain ⟨i, hr, rfl, rfl⟩ := hrel
              have HR2 := Lib.hid hr
              by_cases hi : i < 6
              · have hc : W9.cell? ⟨r, i, none⟩ = some (.int .i64 6) := by rw [cell_of_row _ _ _ _ _ _ RW.out]; exact six_at i hi
                have hi2 : (i : Int) < 6 := by omega
                clear hr
                go_wp2_with fail
                go_roundg (6 - (i + 1))
                case measure => have := HR2.out; omega
                case rel => exact ⟨i + 1, by omega, by go_num, rfl⟩
              · have hi2 : ¬ (i : Int) < 6 := by omega
                clear hr
                go_wp2_with fail
                refine (aliveD _).mono ?_
                rintro e w20 ⟨rfl, hb⟩
                have U20 := Lib.hid (UW.out.below hb)
                have B20 : Hid (Below w.heap.size w w20) := BW.out.trans (hb.mono BW.out.size)
                clear hb
                go_wp2_with fail
                refine (sizeD_nil _).mono ?_
                rintro e w' ⟨rfl, rfl⟩
                go_wp2_with fail
                refine (sizeUD U20.out).mono ?_
                rintro e w' ⟨rfl, rfl⟩
                go_wp2_with fail
                refine (waitsD_nil _).mono ?_
                rintro e w' ⟨rfl, rfl⟩
                go_wp2_with fail
                refine (callsUD U20.out).mono ?_
                rintro e w' ⟨rfl, rfl⟩
                go_wp2_with fail
                refine (downD_nil _).mono ?_
                rintro e w' ⟨rfl, rfl⟩
                go_wp2_with fail
                refine (downUD U20.out).mono ?_
                rintro e w' ⟨rfl, rfl⟩
                go_wp2_with fail
                go_ret
                exact ⟨rfl, B20.out⟩
        case stc19zc0c1 =>
          go_simp
          obtain ⟨r, hr⟩ : ∃ r, r = w3z.heap.size := ⟨_, rfl⟩
          obtain ⟨wa, hwa⟩ : ∃ wa, wa = w3z.alloc (.cells #[.int .i64 0, .int .i64 0, .int .i64 0, .int .i64 0, .int .i64 0, .int .i64 0] 57) := ⟨_, rfl⟩
          have hba : Below w3z.heap.size w3z wa := by rw [hwa]; exact (Below.refl _ _).alloc (Nat.le_refl _) _
          have hRow : wa.heap[r]? = some (.cells #[.int .i64 0, .int .i64 0, .int .i64 0, .int .i64 0, .int .i64 0, .int .i64 0] 57 (0, 0)) := by rw [hwa, hr]; exact heap_alloc_new _ _
          have hr7 : w7.heap.size ≤ r := by rw [hr]; exact hS.size
          rw [← hwa, ← hr]
          refine hK.out _ _ (on7 hS hba) (fun hHeld => ?_)
          clear hK K hwa hba hr
          try simp only [Act.put, List.setIfInBounds_toArray, List.set_cons_succ, List.set_cons_zero]
          clear hS
          have hS := hHeld
          clear hHeld
          refine wpAnyH_ready (rs := [7]) (by kernel_rfl) (by simp) ?_
          refine' AllReadyH.cons ?hoc7zc0c1a2 (fun K hK => ?stc7zc0c1a2) AllReadyH.nil
          case hoc7zc0c1a2 => (simp only [List.getElem?_toArray, List.getElem?_cons_succ, List.getElem?_cons_zero]; rfl)
          go_simp
          refine (setregN _ _).mono ?_
          rintro e w7zc0c1a2 ⟨rfl, hb⟩
          go_wp2_with fail
          refine hK.out _ _ (on7 hS hb) (fun hHeld => ?_)
          clear hK K
          try simp only [Act.put, List.setIfInBounds_toArray, List.set_cons_succ, List.set_cons_zero]
          have hRow := (hb.block r (Array.getElem?_eq_some_iff.1 hRow).1).trans hRow
          clear hS hb
          have hS := hHeld
          clear hHeld
          refine wpAnyH_ready (rs := [10]) (by kernel_rfl) (by simp) ?_
          refine' AllReadyH.cons ?hoc10zc0c1a2c2 (fun K hK => ?stc10zc0c1a2c2) AllReadyH.nil
          case hoc10zc0c1a2c2 => (simp only [List.getElem?_toArray, List.getElem?_cons_succ, List.getElem?_cons_zero]; rfl)
          go_simp
          refine (failUD (U7.out.below hS) n).mono ?_
          rintro e w' ⟨rfl, rfl⟩
          go_wp2_with fail
          refine hK.out _ _ hS (fun hHeld => ?_)
          clear hK K hHeld
          try simp only [Act.put]
          refine wpAnyH_ready (rs := [14]) (by kernel_rfl) (by simp) ?_
          refine' AllReadyH.cons ?hoc14zc0c1a2c2c3 (fun K hK => ?stc14zc0c1a2c2c3) AllReadyH.nil
          case hoc14zc0c1a2c2c3 => (simp only [List.getElem?_toArray, List.getElem?_cons_succ, List.getElem?_cons_zero]; rfl)
          go_simp
          refine (crashN x l c _).mono ?_
          rintro e w14zc0c1a2c2c3 ⟨rfl, hb⟩
          go_wp2_with fail
          refine hK.out _ _ (on7 hS hb) (fun hHeld => ?_)
          clear hK K
          try simp only [Act.put, List.setIfInBounds_toArray, List.set_cons_succ, List.set_cons_zero]
          have hRow := (hb.block r (Array.getElem?_eq_some_iff.1 hRow).1).trans hRow
          clear hS hb
          have hS := hHeld
          clear hHeld
          refine wpAnyH_ready (rs := [17]) (by kernel_rfl) (by simp) ?_
          refine' AllReadyH.cons ?hoc17zc0c1a2c2c3c4 (fun K hK => ?stc17zc0c1a2c2c3c4) AllReadyH.nil
          case hoc17zc0c1a2c2c3c4 => (simp only [List.getElem?_toArray, List.getElem?_cons_succ, List.getElem?_cons_zero]; rfl)
          go_simp
          refine (tamperUD (U7.out.below hS) s).mono ?_
          rintro e w17zc0c1a2c2c3c4 ⟨rfl, hb⟩
          go_wp2_with fail
          refine hK.out _ _ (on7 hS hb) (fun hHeld => ?_)
          clear hK K
          try simp only [Act.put, List.setIfInBounds_toArray, List.set_cons_succ, List.set_cons_zero]
          have hRow := (hb.block r (Array.getElem?_eq_some_iff.1 hRow).1).trans hRow
          clear hS hb
          have hS := hHeld
          clear hHeld
          refine' wpAnyH_take (i := 18) ?h1x18zc0c1a2c2c3c4c5 ?hsx18zc0c1a2c2c3c4c5 ?hfx18zc0c1a2c2c3c4c5 ?hrx18zc0c1a2c2c3c4c5 ?hQx18zc0c1a2c2c3c4c5 (Or.inl ⟨?hwx18zc0c1a2c2c3c4c5, ?hyx18zc0c1a2c2c3c4c5⟩) hS ?restx18zc0c1a2c2c3c4c5
          case h1x18zc0c1a2c2c3c4c5 => (simp only [List.getElem?_toArray, List.getElem?_cons_succ, List.getElem?_cons_zero]; rfl)
          case hsx18zc0c1a2c2c3c4c5 => kernel_rfl
          case hfx18zc0c1a2c2c3c4c5 => kernel_rfl
          case hrx18zc0c1a2c2c3c4c5 => kernel_rfl
          case hQx18zc0c1a2c2c3c4c5 => exact fun _ _ _ h => h
          case hwx18zc0c1a2c2c3c4c5 => rfl
          case hyx18zc0c1a2c2c3c4c5 =>
            intro W hW
            go_simp
            try with_reducible rfl
          simp only [Act.put, List.setIfInBounds_toArray, List.set_cons_succ, List.set_cons_zero]
          refine wpAnyH_ready (rs := [20]) (by kernel_rfl) (by simp) ?_
          refine' AllReadyH.cons ?hoc20zc0c1a2c2c3c4c5 (fun K hK => ?stc20zc0c1a2c2c3c4c5) AllReadyH.nil
          case hoc20zc0c1a2c2c3c4c5 => (simp only [List.getElem?_toArray, List.getElem?_cons_succ, List.getElem?_cons_zero]; rfl)
          refine step_store_row rfl 57 (.tmp 13) (.tmp 60) rfl r #[.int .i64 6, .int .i64 6, .int .i64 6, .int .i64 6, .int .i64 6, .int .i64 6] rfl rfl 57 #[.int .i64 0, .int .i64 0, .int .i64 0, .int .i64 0, .int .i64 0, .int .i64 0] hRow info57s rfl (by decide +kernel) ?_
          refine hK.out _ _ (setRow_below r _ hS hr7) (fun hHeld => ?_)
          clear hK K hHeld
          try simp only [Act.put]
          refine wpAnyH_done (by kernel_rfl) ?_ _
          have hfin := setRow_below r #[.int .i64 6, .int .i64 6, .int .i64 6, .int .i64 6, .int .i64 6, .int .i64 6] hS hr7
          have hrow := setRow_at _ r 57 #[.int .i64 0, .int .i64 0, .int .i64 0, .int .i64 0, .int .i64 0, .int .i64 0] #[.int .i64 6, .int .i64 6, .int .i64 6, .int .i64 6, .int .i64 6, .int .i64 6] hRow
          generalize World.setRow _ r #[.int .i64 6, .int .i64 6, .int .i64 6, .int .i64 6, .int .i64 6, .int .i64 6] = W9 at hfin hrow ⊢
          have UW := Lib.hid (U7.out.below hfin)
          have BW : Hid (Below w.heap.size w W9) := B7.out.trans (hfin.mono B7.out.size)
          have RW := Lib.hid hrow
          clear hfin hrow hS hRow hr7
          go_wp2_with fail
          go_loopg [14] 6 (fun rr vi wr => ∃ i : Nat, rr + i = 6 ∧ vi = .int .i64 i ∧ W9 = wr)
          case atStart => exact ⟨0, rfl, rfl, rfl⟩
          case round =>
            obtain ⟨i, hr, rfl, rfl⟩ := hrel
            have HR2 := Lib.hid hr
            by_cases hi : i < 6
            · have hc : W9.cell? ⟨r, i, none⟩ = some (.int .i64 6) := by rw [cell_of_row _ _ _ _ _ _ RW.out]; exact six_at i hi
              have hi2 : (i : Int) < 6 := by omega
              clear hr
              go_wp2_with fail
              go_roundg (6 - (i + 1))
              case measure => have := HR2.out; omega
              case rel => exact ⟨i + 1, by omega, by go_num, rfl⟩
            · have hi2 : ¬ (i : Int) < 6 := by omega
              clear hr
              go_wp2_with fail
              refine (aliveD _).mono ?_
              rintro e w20 ⟨rfl, hb⟩
              have U20 := Lib.hid (UW.out.below hb)
              have B20 : Hid (Below w.heap.size w w20) := BW.out.trans (hb.mono BW.out.size)
              clear hb
              go_wp2_with fail
              refine (sizeD_nil _).mono ?_
              rintro e w' ⟨rfl, rfl⟩
              go_wp2_with fail
              refine (sizeUD U20.out).mono ?_
              rintro e w' ⟨rfl, rfl⟩
              go_wp2_with fail
              refine (waitsD_nil _).mono ?_
              rintro e w' ⟨rfl, rfl⟩
              go_wp2_with fail
              refine (callsUD U20.out).mono ?_
              rintro e w' ⟨rfl, rfl⟩
              go_wp2_with fail
              refine (downD_nil _).mono ?_
              rintro e w' ⟨rfl, rfl⟩
              go_wp2_with fail
              refine (downUD U20.out).mono ?_
              rintro e w' ⟨rfl, rfl⟩
              go_wp2_with fail
              go_ret
              exact ⟨rfl, B20.out⟩
      case stc19zc0 =>
        go_simp
        obtain ⟨r, hr⟩ : ∃ r, r = w3z.heap.size := ⟨_, rfl⟩
        obtain ⟨wa, hwa⟩ : ∃ wa, wa = w3z.alloc (.cells #[.int .i64 0, .int .i64 0, .int .i64 0, .int .i64 0, .int .i64 0, .int .i64 0] 57) := ⟨_, rfl⟩
        have hba : Below w3z.heap.size w3z wa := by rw [hwa]; exact (Below.refl _ _).alloc (Nat.le_refl _) _
        have hRow : wa.heap[r]? = some (.cells #[.int .i64 0, .int .i64 0, .int .i64 0, .int .i64 0, .int .i64 0, .int .i64 0] 57 (0, 0)) := by rw [hwa, hr]; exact heap_alloc_new _ _
        have hr7 : w7.heap.size ≤ r := by rw [hr]; exact hS.size
        rw [← hwa, ← hr]
        refine hK.out _ _ (on7 hS hba) (fun hHeld => ?_)
        clear hK K hwa hba hr
        try simp only [Act.put, List.setIfInBounds_toArray, List.set_cons_succ, List.set_cons_zero]
        clear hS
        have hS := hHeld
        clear hHeld
        refine wpAnyH_ready (rs := [4]) (by kernel_rfl) (by simp) ?_
        refine' AllReadyH.cons ?hoc4zc0a1 (fun K hK => ?stc4zc0a1) AllReadyH.nil
        case hoc4zc0a1 => (simp only [List.getElem?_toArray, List.getElem?_cons_succ, List.getElem?_cons_zero]; rfl)
        go_simp
        refine (flushUD (U7.out.below hS)).mono ?_
        rintro e w' ⟨rfl, rfl⟩
        go_wp2_with fail
        refine hK.out _ _ hS (fun hHeld => ?_)
        clear hK K hHeld
        try simp only [Act.put]
        refine wpAnyH_ready (rs := [7]) (by kernel_rfl) (by simp) ?_
        refine' AllReadyH.cons ?hoc7zc0a1c1 (fun K hK => ?stc7zc0a1c1) AllReadyH.nil
        case hoc7zc0a1c1 => (simp only [List.getElem?_toArray, List.getElem?_cons_succ, List.getElem?_cons_zero]; rfl)
        go_simp
        refine (setregN _ _).mono ?_
        rintro e w7zc0a1c1 ⟨rfl, hb⟩
        go_wp2_with fail
        refine hK.out _ _ (on7 hS hb) (fun hHeld => ?_)
        clear hK K
        try simp only [Act.put, List.setIfInBounds_toArray, List.set_cons_succ, List.set_cons_zero]
        have hRow := (hb.block r (Array.getElem?_eq_some_iff.1 hRow).1).trans hRow
        clear hS hb
        have hS := hHeld
        clear hHeld
        refine wpAnyH_ready (rs := [10]) (by kernel_rfl) (by simp) ?_
        refine' AllReadyH.cons ?hoc10zc0a1c1c2 (fun K hK => ?stc10zc0a1c1c2) AllReadyH.nil
        case hoc10zc0a1c1c2 => (simp only [List.getElem?_toArray, List.getElem?_cons_succ, List.getElem?_cons_zero]; rfl)
        go_simp
        refine (failUD (U7.out.below hS) n).mono ?_
        rintro e w' ⟨rfl, rfl⟩
        go_wp2_with fail
        refine hK.out _ _ hS (fun hHeld => ?_)
        clear hK K hHeld
        try simp only [Act.put]
        refine wpAnyH_ready (rs := [14]) (by kernel_rfl) (by simp) ?_
        refine' AllReadyH.cons ?hoc14zc0a1c1c2c3 (fun K hK => ?stc14zc0a1c1c2c3) AllReadyH.nil
        case hoc14zc0a1c1c2c3 => (simp only [List.getElem?_toArray, List.getElem?_cons_succ, List.getElem?_cons_zero]; rfl)
        go_simp
        refine (crashN x l c _).mono ?_
        rintro e w14zc0a1c1c2c3 ⟨rfl, hb⟩
        go_wp2_with fail
        refine hK.out _ _ (on7 hS hb) (fun hHeld => ?_)
        clear hK K
        try simp only [Act.put, List.setIfInBounds_toArray, List.set_cons_succ, List.set_cons_zero]
        have hRow := (hb.block r (Array.getElem?_eq_some_iff.1 hRow).1).trans hRow
        clear hS hb
        have hS := hHeld
        clear hHeld
        refine wpAnyH_ready (rs := [17]) (by kernel_rfl) (by simp) ?_
        refine' AllReadyH.cons ?hoc17zc0a1c1c2c3c4 (fun K hK => ?stc17zc0a1c1c2c3c4) AllReadyH.nil
        case hoc17zc0a1c1c2c3c4 => (simp only [List.getElem?_toArray, List.getElem?_cons_succ, List.getElem?_cons_zero]; rfl)
        go_simp
        refine (tamperUD (U7.out.below hS) s).mono ?_
        rintro e w17zc0a1c1c2c3c4 ⟨rfl, hb⟩
        go_wp2_with fail
        refine hK.out _ _ (on7 hS hb) (fun hHeld => ?_)
        clear hK K
        try simp only [Act.put, List.setIfInBounds_toArray, List.set_cons_succ, List.set_cons_zero]
        have hRow := (hb.block r (Array.getElem?_eq_some_iff.1 hRow).1).trans hRow
        clear hS hb
        have hS := hHeld
        clear hHeld
        refine' wpAnyH_take (i := 18) ?h1x18zc0a1c1c2c3c4c5 ?hsx18zc0a1c1c2c3c4c5 ?hfx18zc0a1c1c2c3c4c5 ?hrx18zc0a1c1c2c3c4c5 ?hQx18zc0a1c1c2c3c4c5 (Or.inl ⟨?hwx18zc0a1c1c2c3c4c5, ?hyx18zc0a1c1c2c3c4c5⟩) hS ?restx18zc0a1c1c2c3c4c5
        case h1x18zc0a1c1c2c3c4c5 => (simp only [List.getElem?_toArray, List.getElem?_cons_succ, List.getElem?_cons_zero]; rfl)
        case hsx18zc0a1c1c2c3c4c5 => kernel_rfl
        case hfx18zc0a1c1c2c3c4c5 => kernel_rfl
        case hrx18zc0a1c1c2c3c4c5 => kernel_rfl
        case hQx18zc0a1c1c2c3c4c5 => exact fun _ _ _ h => h
        case hwx18zc0a1c1c2c3c4c5 => rfl
        case hyx18zc0a1c1c2c3c4c5 =>
          intro W hW
          go_simp
          try with_reducible rfl
        simp only [Act.put, List.setIfInBounds_toArray, List.set_cons_succ, List.set_cons_zero]
        refine wpAnyH_ready (rs := [20]) (by kernel_rfl) (by simp) ?_
        refine' AllReadyH.cons ?hoc20zc0a1c1c2c3c4c5 (fun K hK => ?stc20zc0a1c1c2c3c4c5) AllReadyH.nil
        case hoc20zc0a1c1c2c3c4c5 => (simp only [List.getElem?_toArray, List.getElem?_cons_succ, List.getElem?_cons_zero]; rfl)
        refine step_store_row rfl 57 (.tmp 13) (.tmp 60) rfl r #[.int .i64 6, .int .i64 6, .int .i64 6, .int .i64 6, .int .i64 6, .int .i64 6] rfl rfl 57 #[.int .i64 0, .int .i64 0, .int .i64 0, .int .i64 0, .int .i64 0, .int .i64 0] hRow info57s rfl (by decide +kernel) ?_
        refine hK.out _ _ (setRow_below r _ hS hr7) (fun hHeld => ?_)
        clear hK K hHeld
        try simp only [Act.put]
        refine wpAnyH_done (by kernel_rfl) ?_ _
        have hfin := setRow_below r #[.int .i64 6, .int .i64 6, .int .i64 6, .int .i64 6, .int .i64 6, .int .i64 6] hS hr7
        have hrow := setRow_at _ r 57 #[.int .i64 0, .int .i64 0, .int .i64 0, .int .i64 0, .int .i64 0, .int .i64 0] #[.int .i64 6, .int .i64 6, .int .i64 6, .int .i64 6, .int .i64 6, .int .i64 6] hRow
        generalize World.setRow _ r #[.int .i64 6, .int .i64 6, .int .i64 6, .int .i64 6, .int .i64 6, .int .i64 6] = W9 at hfin hrow ⊢
        have UW := Lib.hid (U7.out.below hfin)
        have BW : Hid (Below w.heap.size w W9) := B7.out.trans (hfin.mono B7.out.size)
        have RW := Lib.hid hrow
        clear hfin hrow hS hRow hr7
        go_wp2_with fail
        go_loopg [14] 6 (fun rr vi wr => ∃ i : Nat, rr + i = 6 ∧ vi = .int .i64 i ∧ W9 = wr)
        case atStart => exact ⟨0, rfl, rfl, rfl⟩
        case round =>
          obtain ⟨i, hr, rfl, rfl⟩ := hrel
          have HR2 := Lib.hid hr
          by_cases hi : i < 6
          · have hc : W9.cell? ⟨r, i, none⟩ = some (.int .i64 6) := by rw [cell_of_row _ _ _ _ _ _ RW.out]; exact six_at i hi
            have hi2 : (i : Int) < 6 := by omega
            clear hr
            go_wp2_with fail
            go_roundg (6 - (i + 1))
            case measure => have := HR2.out; omega
            case rel => exact ⟨i + 1, by omega, by go_num, rfl⟩
          · have hi2 : ¬ (i : Int) < 6 := by omega
            clear hr
            go_wp2_with fail
            refine (aliveD _).mono ?_
            rintro e w20 ⟨rfl, hb⟩
            have U20 := Lib.hid (UW.out.below hb)
            have B20 : Hid (Below w.heap.size w w20) := BW.out.trans (hb.mono BW.out.size)
            clear hb
            go_wp2_with fail
            refine (sizeD_nil _).mono ?_
            rintro e w' ⟨rfl, rfl⟩
            go_wp2_with fail
            refine (sizeUD U20.out).mono ?_
            rintro e w' ⟨rfl, rfl⟩
            go_wp2_with fail
            refine (waitsD_nil _).mono ?_
            rintro e w' ⟨rfl, rfl⟩
            go_wp2_with fail
            refine (callsUD U20.out).mono ?_
            rintro e w' ⟨rfl, rfl⟩
            go_wp2_with fail
            refine (downD_nil _).mono ?_
            rintro e w' ⟨rfl, rfl⟩
            go_wp2_with fail
            refine (downUD U20.out).mono ?_
            rintro e w' ⟨rfl, rfl⟩
            go_wp2_with fail
            go_ret
            exact ⟨rfl, B20.out⟩
    case stc19z =>
      go_simp
      obtain ⟨r, hr⟩ : ∃ r, r = wd.heap.size := ⟨_, rfl⟩
      obtain ⟨wa, hwa⟩ : ∃ wa, wa = wd.alloc (.cells #[.int .i64 0, .int .i64 0, .int .i64 0, .int .i64 0, .int .i64 0, .int .i64 0] 57) := ⟨_, rfl⟩
      have hba : Below wd.heap.size wd wa := by rw [hwa]; exact (Below.refl _ _).alloc (Nat.le_refl _) _
      have hRow : wa.heap[r]? = some (.cells #[.int .i64 0, .int .i64 0, .int .i64 0, .int .i64 0, .int .i64 0, .int .i64 0] 57 (0, 0)) := by rw [hwa, hr]; exact heap_alloc_new _ _
      have hr7 : w7.heap.size ≤ r := by rw [hr]; exact hS.size
      rw [← hwa, ← hr]
      refine hK.out _ _ (on7 hS hba) (fun hHeld => ?_)
      clear hK K hwa hba hr
      try simp only [Act.put, List.setIfInBounds_toArray, List.set_cons_succ, List.set_cons_zero]
      clear hS
      have hS := hHeld
      clear hHeld
      refine wpAnyH_ready (rs := [3]) (by kernel_rfl) (by simp) ?_
      refine' AllReadyH.cons ?hoc3za0 (fun K hK => ?stc3za0) AllReadyH.nil
      case hoc3za0 => (simp only [List.getElem?_toArray, List.getElem?_cons_succ, List.getElem?_cons_zero]; rfl)
      go_simp
      refine (writeN _ s).mono ?_
      rintro e w3za0 ⟨rfl, hb⟩
      go_wp2_with fail
      refine hK.out _ _ (on7 hS hb) (fun hHeld => ?_)
      clear hK K
      try simp only [Act.put, List.setIfInBounds_toArray, List.set_cons_succ, List.set_cons_zero]
      have hRow := (hb.block r (Array.getElem?_eq_some_iff.1 hRow).1).trans hRow
      clear hS hb
      have hS := hHeld
      clear hHeld
      refine wpAnyH_ready (rs := [4]) (by kernel_rfl) (by simp) ?_
      refine' AllReadyH.cons ?hoc4za0c0 (fun K hK => ?stc4za0c0) AllReadyH.nil
      case hoc4za0c0 => (simp only [List.getElem?_toArray, List.getElem?_cons_succ, List.getElem?_cons_zero]; rfl)
      go_simp
      refine (flushUD (U7.out.below hS)).mono ?_
      rintro e w' ⟨rfl, rfl⟩
      go_wp2_with fail
      refine hK.out _ _ hS (fun hHeld => ?_)
      clear hK K hHeld
      try simp only [Act.put]
      refine wpAnyH_ready (rs := [7]) (by kernel_rfl) (by simp) ?_
      refine' AllReadyH.cons ?hoc7za0c0c1 (fun K hK => ?stc7za0c0c1) AllReadyH.nil
      case hoc7za0c0c1 => (simp only [List.getElem?_toArray, List.getElem?_cons_succ, List.getElem?_cons_zero]; rfl)
      go_simp
      refine (setregN _ _).mono ?_
      rintro e w7za0c0c1 ⟨rfl, hb⟩
      go_wp2_with fail
      refine hK.out _ _ (on7 hS hb) (fun hHeld => ?_)
      clear hK K
      try simp only [Act.put, List.setIfInBounds_toArray, List.set_cons_succ, List.set_cons_zero]
      have hRow := (hb.block r (Array.getElem?_eq_some_iff.1 hRow).1).trans hRow
      clear hS hb
      have hS := hHeld
      clear hHeld
      refine wpAnyH_ready (rs := [10]) (by kernel_rfl) (by simp) ?_
      refine' AllReadyH.cons ?hoc10za0c0c1c2 (fun K hK => ?stc10za0c0c1c2) AllReadyH.nil
      case hoc10za0c0c1c2 => (simp only [List.getElem?_toArray, List.getElem?_cons_succ, List.getElem?_cons_zero]; rfl)
      go_simp
      refine (failUD (U7.out.below hS) n).mono ?_
      rintro e w' ⟨rfl, rfl⟩
      go_wp2_with fail
      refine hK.out _ _ hS (fun hHeld => ?_)
      clear hK K hHeld
      try simp only [Act.put]
      refine wpAnyH_ready (rs := [14]) (by kernel_rfl) (by simp) ?_
      refine' AllReadyH.cons ?hoc14za0c0c1c2c3 (fun K hK => ?stc14za0c0c1c2c3) AllReadyH.nil
      case hoc14za0c0c1c2c3 => (simp only [List.getElem?_toArray, List.getElem?_cons_succ, List.getElem?_cons_zero]; rfl)
      go_simp
      refine (crashN x l c _).mono ?_
      rintro e w14za0c0c1c2c3 ⟨rfl, hb⟩
      go_wp2_with fail
      refine hK.out _ _ (on7 hS hb) (fun hHeld => ?_)
      clear hK K
      try simp only [Act.put, List.setIfInBounds_toArray, List.set_cons_succ, List.set_cons_zero]
      have hRow := (hb.block r (Array.getElem?_eq_some_iff.1 hRow).1).trans hRow
      clear hS hb
      have hS := hHeld
      clear hHeld
      refine wpAnyH_ready (rs := [17]) (by kernel_rfl) (by simp) ?_
      refine' AllReadyH.cons ?hoc17za0c0c1c2c3c4 (fun K hK => ?stc17za0c0c1c2c3c4) AllReadyH.nil
      case hoc17za0c0c1c2c3c4 => (simp only [List.getElem?_toArray, List.getElem?_cons_succ, List.getElem?_cons_zero]; rfl)
      go_simp
      refine (tamperUD (U7.out.below hS) s).mono ?_
      rintro e w17za0c0c1c2c3c4 ⟨rfl, hb⟩
      go_wp2_with fail
      refine hK.out _ _ (on7 hS hb) (fun hHeld => ?_)
      clear hK K
      try simp only [Act.put, List.setIfInBounds_toArray, List.set_cons_succ, List.set_cons_zero]
      have hRow := (hb.block r (Array.getElem?_eq_some_iff.1 hRow).1).trans hRow
      clear hS hb
      have hS := hHeld
      clear hHeld
      refine' wpAnyH_take (i := 18) ?h1x18za0c0c1c2c3c4c5 ?hsx18za0c0c1c2c3c4c5 ?hfx18za0c0c1c2c3c4c5 ?hrx18za0c0c1c2c3c4c5 ?hQx18za0c0c1c2c3c4c5 (Or.inl ⟨?hwx18za0c0c1c2c3c4c5, ?hyx18za0c0c1c2c3c4c5⟩) hS ?restx18za0c0c1c2c3c4c5
      case h1x18za0c0c1c2c3c4c5 => (simp only [List.getElem?_toArray, List.getElem?_cons_succ, List.getElem?_cons_zero]; rfl)
      case hsx18za0c0c1c2c3c4c5 => kernel_rfl
      case hfx18za0c0c1c2c3c4c5 => kernel_rfl
      case hrx18za0c0c1c2c3c4c5 => kernel_rfl
      case hQx18za0c0c1c2c3c4c5 => exact fun _ _ _ h => h
      case hwx18za0c0c1c2c3c4c5 => rfl
      case hyx18za0c0c1c2c3c4c5 =>
        intro W hW
        go_simp
        try with_reducible rfl
      simp only [Act.put, List.setIfInBounds_toArray, List.set_cons_succ, List.set_cons_zero]
      refine wpAnyH_ready (rs := [20]) (by kernel_rfl) (by simp) ?_
      refine' AllReadyH.cons ?hoc20za0c0c1c2c3c4c5 (fun K hK => ?stc20za0c0c1c2c3c4c5) AllReadyH.nil
      case hoc20za0c0c1c2c3c4c5 => (simp only [List.getElem?_toArray, List.getElem?_cons_succ, List.getElem?_cons_zero]; rfl)
      refine step_store_row rfl 57 (.tmp 13) (.tmp 60) rfl r #[.int .i64 6, .int .i64 6, .int .i64 6, .int .i64 6, .int .i64 6, .int .i64 6] rfl rfl 57 #[.int .i64 0, .int .i64 0, .int .i64 0, .int .i64 0, .int .i64 0, .int .i64 0] hRow info57s rfl (by decide +kernel) ?_
      refine hK.out _ _ (setRow_below r _ hS hr7) (fun hHeld => ?_)
      clear hK K hHeld
      try simp only [Act.put]
      refine wpAnyH_done (by kernel_rfl) ?_ _
      have hfin := setRow_below r #[.int .i64 6, .int .i64 6, .int .i64 6, .int .i64 6, .int .i64 6, .int .i64 6] hS hr7
      have hrow := setRow_at _ r 57 #[.int .i64 0, .int .i64 0, .int .i64 0, .int .i64 0, .int .i64 0, .int .i64 0] #[.int .i64 6, .int .i64 6, .int .i64 6, .int .i64 6, .int .i64 6, .int .i64 6] hRow
      generalize World.setRow _ r #[.int .i64 6, .int .i64 6, .int .i64 6, .int .i64 6, .int .i64 6, .int .i64 6] = W9 at hfin hrow ⊢
      have UW := Lib.hid (U7.out.below hfin)
      have BW : Hid (Below w.heap.size w W9) := B7.out.trans (hfin.mono B7.out.size)
      have RW := Lib.hid hrow
      clear hfin hrow hS hRow hr7
      go_wp2_with fail
      go_loopg [14] 6 (fun rr vi wr => ∃ i : Nat, rr + i = 6 ∧ vi = .int .i64 i ∧ W9 = wr)
      case atStart => exact ⟨0, rfl, rfl, rfl⟩
      case round =>
        obtain ⟨i, hr, rfl, rfl⟩ := hrel
        have HR2 := Lib.hid hr
        by_cases hi : i < 6
        · have hc : W9.cell? ⟨r, i, none⟩ = some (.int .i64 6) := by rw [cell_of_row _ _ _ _ _ _ RW.out]; exact six_at i hi
          have hi2 : (i : Int) < 6 := by omega
          clear hr
          go_wp2_with fail
          go_roundg (6 - (i + 1))
          case measure => have := HR2.out; omega
          case rel => exact ⟨i + 1, by omega, by go_num, rfl⟩
        · have hi2 : ¬ (i : Int) < 6 := by omega
          clear hr
          go_wp2_with fail
          refine (aliveD _).mono ?_
          rintro e w20 ⟨rfl, hb⟩
          have U20 := Lib.hid (UW.out.below hb)
          have B20 : Hid (Below w.heap.size w w20) := BW.out.trans (hb.mono BW.out.size)
          clear hb
          go_wp2_with fail
          refine (sizeD_nil _).mono ?_
          rintro e w' ⟨rfl, rfl⟩
          go_wp2_with fail
          refine (sizeUD U20.out).mono ?_
          rintro e w' ⟨rfl, rfl⟩
          go_wp2_with fail
          refine (waitsD_nil _).mono ?_
          rintro e w' ⟨rfl, rfl⟩
          go_wp2_with fail
          refine (callsUD U20.out).mono ?_
          rintro e w' ⟨rfl, rfl⟩
          go_wp2_with fail
          refine (downD_nil _).mono ?_
          rintro e w' ⟨rfl, rfl⟩
          go_wp2_with fail
          refine (downUD U20.out).mono ?_
          rintro e w' ⟨rfl, rfl⟩
          go_wp2_with fail
          go_ret
          exact ⟨rfl, B20.out⟩
set_option maxRecDepth 100000 in
theorem open_opv {H : Type} {enc : TypeId × Value → H} {w : World} {r : Reach} {b0 base : Nat} {v : Value} {d : DataW H} {ps : List MemPlace}
    (hval : Value.okWide Try.prog w r b0 34 v) (hd : DataW.Trod enc Try.prog w base (fun _ => true) true 34 v d ps) : ∃ (k : Int) (s y : Nat) (n : Int) (x : Option Addr) (l c : Nat), v = .agg #[.int .i64 k, .int .u32 s, .int .u8 y, .int .i64 n, .slice x l c] ∧ l ≤ maxLen := by
  obtain ⟨cs, rfl, hsz⟩ := okWide_struct Try.underlying34 hval
  obtain ⟨fuel, hf⟩ := hd
  obtain ⟨k, s, y, n, x, l, c, h, _, _, _, hl⟩ := op_cells hf
  have h' : cs.toList = [.int .i64 k, .int .u32 s, .int .u8 y, .int .i64 n, .slice x l c] := by simpa [Value.cells] using h
  refine ⟨k, s, y, n, x, l, c, ?_, hl⟩
  rw [← h']

set_option maxRecDepth 100000 in
theorem lifted (os : Os) (started : os.Started) (H : Type) (enc : TypeId × Value → H) :
    ReturnsInHanded {} Try.checked os 4 .any (Rows.diskNobodySpec.pre6 enc Try.prog Try.f4 Rows.diskNobodyRow.domain false) (Rows.diskNobodySpec.post enc Try.prog Try.f4 false true false false) := by
  refine returnsInHanded_of_change (C := Try.checked) own started (by kernel_rfl) Try.func4
    (ChangeSpec.witness6 (enc := enc) (C := Try.checked) false ⟨#[], #[.agg #[.int .i64 0, .int .u32 0, .int .u8 0, .int .i64 0, .slice none 0 0]], []⟩ 8 (by kernel_rfl) (by kernel_rfl) (by kernel_rfl) (by kernel_rfl)) ?_
  intro W base args ds gs before hval0 hW hcnd _
  have hval : ∀ (j : Nat) t v, Try.f4.params[j]? = some t → args[j]? = some v → Value.okWide Try.prog W .any base t v := hval0
  have hW' := hW
  obtain ⟨p, q, hA0, hV, rfl, hfz, hnd⟩ := hW
  have hA : DataW.TrodAll enc Try.prog W 0 (fun _ => true) true Try.f4.params.toList args.toList ds p := hA0
  rw [Try.params4] at hA hval
  obtain ⟨v0, vs0, d0, ds0, p0, q0, hargs, rfl, rfl, h0, r0⟩ := trodAll_cons hA
  obtain ⟨rfl, rfl, rfl⟩ := trodAll_nil r0
  obtain rfl : args = #[v0] := by cases args; simp_all
  obtain ⟨rfl, rfl⟩ := trodVars_none hV
  obtain ⟨k0, s0, y0, n0, x0, l0, c0, rfl, hl0⟩ := open_opv (hval 0 34 v0 rfl rfl) h0
  refine (walk k0 s0 y0 n0 x0 l0 c0 (by unfold maxLen at hl0; omega) W).mono fun e W' ⟨he, hb⟩ => ?_
  subst he
  exact ⟨_, rfl, law_post hW' rfl rfl rfl (by kernel_rfl) hb⟩

/-- The statement. -/
theorem proved : Rows.DiskNobodySaid :=
  OpenClaim.holds_of_wide 4 Try.f4 rfl rfl rfl rfl rfl rfl rfl ⟨rfl, rfl, rfl, rfl, rfl⟩ rfl rfl rfl rfl rfl (by kernel_rfl) Try.func4 (by kernel_rfl)
    (of_decide_eq_true (by kernel_rfl)) (by unfold Func.isWrapper; first | (rw [if_pos (by decide +kernel)]; kernel_rfl) | (rw [if_neg (by decide +kernel)]; exact ⟨rfl, rfl⟩))
    (fun os started H enc _ => lifted os started H enc)
#print axioms proved
end Go.Proofs.Ytklhnibmpdaioaa.diskNobody
