/-
  One op at the program's lanes and at the document's: both answer alike, and have the same again. Condition: both lie in memory, and have the same lists.
-/
import Derived.Test.YtfdihgahegfamaaNB
namespace Go.Proofs.Ytfdihgahegfamaa
open Go.RowKit Go.Conc
theorem plusL_fit {n size : Nat} {A : Nat → List Int} (h : ∀ j, j < n → (A j).length ≤ size) (l x : Int) : ∀ j, j < n → (plusL n size A l x j).length ≤ size := fun j hj => by
  unfold plusL
  split
  · rename_i hc
    by_cases hjl : j = l.toNat
    · subst hjl; rw [upd_self]; simp; omega
    · rw [upd_ne _ _ _ _ hjl]; exact h j hj
  · exact h j hj
theorem upd_fit {n size : Nat} {A : Nat → List Int} (h : ∀ j, j < n → (A j).length ≤ size) (k : Nat) (l : List Int) (hl : l.length ≤ size) : ∀ j, j < n → (upd A k l j).length ≤ size := fun j hj => by
  by_cases hjk : j = k
  · subst hjk; rw [upd_self]; exact hl
  · rw [upd_ne _ _ _ _ hjk]; exact h j hj
set_option maxRecDepth 100000 in
set_option maxHeartbeats 4000000 in
theorem jone0 {w0 w : World} {g ga c0 n size gx : Nat} {u : Value} {vs : Nat → Value} {A : Nat → List Int} (h : J2 w0 w g ga c0 n size gx u vs A A) (hA : ∀ j, j < n → (A j).length ≤ size) (n8 : n ≤ 8) (h8 : size ≤ 8) (l x : Int) (hl0 : -9223372036854775808 ≤ l) (hl1 : l ≤ 9223372036854775807) :
    Calls Try.prog 42 #[.pointer (some ⟨g, 0, none⟩), .pointer (some ⟨gx, 0, none⟩), .agg #[.int .i64 0, .int .i64 l, .int .i64 x]] w (OneJ w0 g ga c0 n size gx u) := by
  obtain ⟨w1, hw1⟩ : ∃ w1, w1 = w.alloc (.cells #[.int .i64 0, .int .i64 l, .int .i64 x] 75) := ⟨_, rfl⟩
  obtain ⟨gop, hgop⟩ : ∃ gop, gop = w.heap.size := ⟨_, rfl⟩
  have hh1 : w1.heap[gop]? = some (.cells #[.int .i64 0, .int .i64 l, .int .i64 x] 75 (0, 0)) := by rw [hw1, hgop]; exact heap_alloc_new _ _
  have h1 : J2 w0 w1 g ga c0 n size gx u vs A A := by rw [hw1]; exact h.below ((Below.refl _ _).alloc (Nat.le_refl _) _)
  have H1 := Lib.hid h1
  have HH1 := Lib.hid hh1
  have HW := Lib.hid hw1
  have HG := Lib.hid hgop
  have HA := Lib.hid hA
  have k0 : w1.cell? ⟨gop, 0, none⟩ = some (.int .i64 0) := by rw [cell_of_row _ _ _ _ _ _ hh1]; rfl
  have k1 : w1.cell? ⟨gop, 1, none⟩ = some (.int .i64 l) := by rw [cell_of_row _ _ _ _ _ _ hh1]; rfl
  clear h h1 hh1 hw1 hgop hA
  go_enter Try.func42, Try.ntmps42
  go_wp2_with fail
  rw [← HW.out, ← HG.out]
  refine wp_region_held_drew (S := fun W => W.heap[gop]? = some (.cells #[.int .i64 0, .int .i64 l, .int .i64 x] 75 (0, 0))) (by kernel_rfl) HH1.out (fun hS => ?_)
  clear k0 k1
  have H1d : Hid (J2 w0 w1.drew g ga c0 n size gx u vs A A) := H1.out.below (Below.refl _ _).drew
  clear H1
  have H1 := H1d
  clear H1d
  refine' wpAnyH_take (i := 0) ?h1x0 ?hsx0 ?hfx0 ?hrx0 ?hQx0 (Or.inl ⟨?hwx0, ?hyx0⟩) hS ?restx0
  case h1x0 => (simp only [List.getElem?_toArray, List.getElem?_cons_zero]; rfl)
  case hsx0 => kernel_rfl
  case hfx0 => kernel_rfl
  case hrx0 => kernel_rfl
  case hQx0 => exact fun _ _ _ h => h
  case hwx0 => rfl
  case hyx0 =>
    intro W hW
    go_simp
    try with_reducible rfl
  simp only [Act.put, List.setIfInBounds_toArray, List.set_cons_succ, List.set_cons_zero]
  refine' wpAnyH_take (i := 1) ?h1x1 ?hsx1 ?hfx1 ?hrx1 ?hQx1 (Or.inl ⟨?hwx1, ?hyx1⟩) hS ?restx1
  case h1x1 => (simp only [List.getElem?_toArray, List.getElem?_cons_succ, List.getElem?_cons_zero]; rfl)
  case hsx1 => kernel_rfl
  case hfx1 => kernel_rfl
  case hrx1 => kernel_rfl
  case hQx1 => exact fun _ _ _ h => h
  case hwx1 => rfl
  case hyx1 =>
    intro W hW
    go_simp
    try with_reducible rfl
  simp only [Act.put, List.setIfInBounds_toArray, List.set_cons_succ, List.set_cons_zero]
  refine' wpAnyH_take (i := 2) ?h1x2 ?hsx2 ?hfx2 ?hrx2 ?hQx2 (Or.inl ⟨?hwx2, ?hyx2⟩) hS ?restx2
  case h1x2 => (simp only [List.getElem?_toArray, List.getElem?_cons_succ, List.getElem?_cons_zero]; rfl)
  case hsx2 => kernel_rfl
  case hfx2 => kernel_rfl
  case hrx2 => kernel_rfl
  case hQx2 => exact fun _ _ _ h => h
  case hwx2 => rfl
  case hyx2 =>
    intro W hW
    have c1 : W.cell? ⟨gop, 1, none⟩ = some (.int .i64 l) := by rw [cell_of_row _ _ _ _ _ _ hW]; rfl
    go_simp
    try with_reducible rfl
  simp only [Act.put, List.setIfInBounds_toArray, List.set_cons_succ, List.set_cons_zero]
  refine' wpAnyH_take (i := 3) ?h1x3 ?hsx3 ?hfx3 ?hrx3 ?hQx3 (Or.inl ⟨?hwx3, ?hyx3⟩) hS ?restx3
  case h1x3 => (simp only [List.getElem?_toArray, List.getElem?_cons_succ, List.getElem?_cons_zero]; rfl)
  case hsx3 => kernel_rfl
  case hfx3 => kernel_rfl
  case hrx3 => kernel_rfl
  case hQx3 => exact fun _ _ _ h => h
  case hwx3 => rfl
  case hyx3 =>
    intro W hW
    go_simp
    try with_reducible rfl
  simp only [Act.put, List.setIfInBounds_toArray, List.set_cons_succ, List.set_cons_zero]
  refine' wpAnyH_take (i := 4) ?h1x4 ?hsx4 ?hfx4 ?hrx4 ?hQx4 (Or.inl ⟨?hwx4, ?hyx4⟩) hS ?restx4
  case h1x4 => (simp only [List.getElem?_toArray, List.getElem?_cons_succ, List.getElem?_cons_zero]; rfl)
  case hsx4 => kernel_rfl
  case hfx4 => kernel_rfl
  case hrx4 => kernel_rfl
  case hQx4 => exact fun _ _ _ h => h
  case hwx4 => rfl
  case hyx4 =>
    intro W hW
    have c2 : W.cell? ⟨gop, 2, none⟩ = some (.int .i64 x) := by rw [cell_of_row _ _ _ _ _ _ hW]; rfl
    go_simp
    try with_reducible rfl
  simp only [Act.put, List.setIfInBounds_toArray, List.set_cons_succ, List.set_cons_zero]
  refine' wpAnyH_take (i := 6) ?h1x6 ?hsx6 ?hfx6 ?hrx6 ?hQx6 (Or.inl ⟨?hwx6, ?hyx6⟩) hS ?restx6
  case h1x6 => (simp only [List.getElem?_toArray, List.getElem?_cons_succ, List.getElem?_cons_zero]; rfl)
  case hsx6 => kernel_rfl
  case hfx6 => kernel_rfl
  case hrx6 => kernel_rfl
  case hQx6 => exact fun _ _ _ h => h
  case hwx6 => rfl
  case hyx6 =>
    intro W hW
    go_simp
    try with_reducible rfl
  simp only [Act.put, List.setIfInBounds_toArray, List.set_cons_succ, List.set_cons_zero]
  refine' wpAnyH_take (i := 7) ?h1x7 ?hsx7 ?hfx7 ?hrx7 ?hQx7 (Or.inl ⟨?hwx7, ?hyx7⟩) hS ?restx7
  case h1x7 => (simp only [List.getElem?_toArray, List.getElem?_cons_succ, List.getElem?_cons_zero]; rfl)
  case hsx7 => kernel_rfl
  case hfx7 => kernel_rfl
  case hrx7 => kernel_rfl
  case hQx7 => exact fun _ _ _ h => h
  case hwx7 => rfl
  case hyx7 =>
    intro W hW
    go_simp
    try with_reducible rfl
  simp only [Act.put, List.setIfInBounds_toArray, List.set_cons_succ, List.set_cons_zero]
  refine' wpAnyH_take (i := 8) ?h1x8 ?hsx8 ?hfx8 ?hrx8 ?hQx8 (Or.inl ⟨?hwx8, ?hyx8⟩) hS ?restx8
  case h1x8 => (simp only [List.getElem?_toArray, List.getElem?_cons_succ, List.getElem?_cons_zero]; rfl)
  case hsx8 => kernel_rfl
  case hfx8 => kernel_rfl
  case hrx8 => kernel_rfl
  case hQx8 => exact fun _ _ _ h => h
  case hwx8 => rfl
  case hyx8 =>
    intro W hW
    have c1 : W.cell? ⟨gop, 1, none⟩ = some (.int .i64 l) := by rw [cell_of_row _ _ _ _ _ _ hW]; rfl
    go_simp
    try with_reducible rfl
  simp only [Act.put, List.setIfInBounds_toArray, List.set_cons_succ, List.set_cons_zero]
  refine' wpAnyH_take (i := 9) ?h1x9 ?hsx9 ?hfx9 ?hrx9 ?hQx9 (Or.inl ⟨?hwx9, ?hyx9⟩) hS ?restx9
  case h1x9 => (simp only [List.getElem?_toArray, List.getElem?_cons_succ, List.getElem?_cons_zero]; rfl)
  case hsx9 => kernel_rfl
  case hfx9 => kernel_rfl
  case hrx9 => kernel_rfl
  case hQx9 => exact fun _ _ _ h => h
  case hwx9 => rfl
  case hyx9 =>
    intro W hW
    go_simp
    try with_reducible rfl
  simp only [Act.put, List.setIfInBounds_toArray, List.set_cons_succ, List.set_cons_zero]
  refine' wpAnyH_take (i := 10) ?h1x10 ?hsx10 ?hfx10 ?hrx10 ?hQx10 (Or.inl ⟨?hwx10, ?hyx10⟩) hS ?restx10
  case h1x10 => (simp only [List.getElem?_toArray, List.getElem?_cons_succ, List.getElem?_cons_zero]; rfl)
  case hsx10 => kernel_rfl
  case hfx10 => kernel_rfl
  case hrx10 => kernel_rfl
  case hQx10 => exact fun _ _ _ h => h
  case hwx10 => rfl
  case hyx10 =>
    intro W hW
    have c2 : W.cell? ⟨gop, 2, none⟩ = some (.int .i64 x) := by rw [cell_of_row _ _ _ _ _ _ hW]; rfl
    go_simp
    try with_reducible rfl
  simp only [Act.put, List.setIfInBounds_toArray, List.set_cons_succ, List.set_cons_zero]
  refine wpAnyH_ready (rs := [5]) (by kernel_rfl) (by simp) ?_
  refine' AllReadyH.cons ?hoa (fun K hK => ?sta) AllReadyH.nil
  case hoa => (simp only [List.getElem?_toArray, List.getElem?_cons_succ, List.getElem?_cons_zero]; rfl)
  go_simp
  refine (put_ja H1.out l x hS).mono ?_
  rintro e w2 ⟨rfl, hh8, v8, ht8⟩
  go_wp2_with fail
  refine hK.out _ _ hh8 (fun hHeld => ?_)
  clear hK K
  try simp only [Act.put, List.setIfInBounds_toArray, List.set_cons_succ, List.set_cons_zero]
  clear hHeld
  have hS := hh8
  refine wpAnyH_ready (rs := [11]) (by kernel_rfl) (by simp) ?_
  refine' AllReadyH.cons ?hob (fun K hK => ?stb) AllReadyH.nil
  case hob => (simp only [List.getElem?_toArray, List.getElem?_cons_succ, List.getElem?_cons_zero]; rfl)
  go_simp
  refine (put_jb ht8 h8 l x hS).mono ?_
  rintro e w3 ⟨rfl, hh9, v9, ht9⟩
  go_wp2_with fail
  refine hK.out _ _ hh9 (fun hHeld => ?_)
  clear hK K
  try simp only [Act.put, List.setIfInBounds_toArray, List.set_cons_succ, List.set_cons_zero]
  have hS := hHeld
  refine' wpAnyH_take (i := 12) ?h1x12a ?hsx12a ?hfx12a ?hrx12a ?hQx12a (Or.inl ⟨?hwx12a, ?hyx12a⟩) hS ?restx12a
  case h1x12a => (simp only [List.getElem?_toArray, List.getElem?_cons_succ, List.getElem?_cons_zero]; rfl)
  case hsx12a => kernel_rfl
  case hfx12a => kernel_rfl
  case hrx12a => kernel_rfl
  case hQx12a => exact fun _ _ _ h => h
  case hwx12a => rfl
  case hyx12a =>
    intro W hW
    go_simp
    try with_reducible rfl
  simp only [Act.put, List.setIfInBounds_toArray, List.set_cons_succ, List.set_cons_zero]
  refine' wpAnyH_take (i := 13) ?h1x13a ?hsx13a ?hfx13a ?hrx13a ?hQx13a (Or.inl ⟨?hwx13a, ?hyx13a⟩) hS ?restx13a
  case h1x13a => (simp only [List.getElem?_toArray, List.getElem?_cons_succ, List.getElem?_cons_zero]; rfl)
  case hsx13a => kernel_rfl
  case hfx13a => kernel_rfl
  case hrx13a => kernel_rfl
  case hQx13a => exact fun _ _ _ h => h
  case hwx13a => rfl
  case hyx13a =>
    intro W hW
    go_simp
    try with_reducible rfl
  simp only [Act.put, List.setIfInBounds_toArray, List.set_cons_succ, List.set_cons_zero]
  refine wpAnyH_done (by kernel_rfl) ?_ _
  go_wp2_with fail
  go_ret
  exact ⟨_, _, by simp, ht9, plusL_fit HA.out l x⟩
set_option maxRecDepth 100000 in
set_option maxHeartbeats 4000000 in
theorem jone1_arg {w0 w : World} {g ga c0 n size gx : Nat} {u : Value} {vs : Nat → Value} {A : Nat → List Int} (h : J2 w0 w g ga c0 n size gx u vs A A) (hA : ∀ j, j < n → (A j).length ≤ size) (n8 : n ≤ 8) (h8 : size ≤ 8) (l x : Int) (hE : ¬ (0 ≤ l ∧ l < n)) (hl0 : -9223372036854775808 ≤ l) (hl1 : l ≤ 9223372036854775807) :
    Calls Try.prog 42 #[.pointer (some ⟨g, 0, none⟩), .pointer (some ⟨gx, 0, none⟩), .agg #[.int .i64 1, .int .i64 l, .int .i64 x]] w (OneJ w0 g ga c0 n size gx u) := by
  obtain ⟨w1, hw1⟩ : ∃ w1, w1 = w.alloc (.cells #[.int .i64 1, .int .i64 l, .int .i64 x] 75) := ⟨_, rfl⟩
  obtain ⟨gop, hgop⟩ : ∃ gop, gop = w.heap.size := ⟨_, rfl⟩
  have hh1 : w1.heap[gop]? = some (.cells #[.int .i64 1, .int .i64 l, .int .i64 x] 75 (0, 0)) := by rw [hw1, hgop]; exact heap_alloc_new _ _
  have h1 : J2 w0 w1 g ga c0 n size gx u vs A A := by rw [hw1]; exact h.below ((Below.refl _ _).alloc (Nat.le_refl _) _)
  have H1 := Lib.hid h1
  have HH1 := Lib.hid hh1
  have HW := Lib.hid hw1
  have HG := Lib.hid hgop
  have HA := Lib.hid hA
  have k0 : w1.cell? ⟨gop, 0, none⟩ = some (.int .i64 1) := by rw [cell_of_row _ _ _ _ _ _ hh1]; rfl
  have k1 : w1.cell? ⟨gop, 1, none⟩ = some (.int .i64 l) := by rw [cell_of_row _ _ _ _ _ _ hh1]; rfl
  clear h h1 hh1 hw1 hgop hA
  go_enter Try.func42, Try.ntmps42
  go_wp2_with fail
  rw [← HW.out, ← HG.out]
  obtain ⟨Q, hQ, hq⟩ := H1.out.ln
  refine (takeL_arg hQ l hE).mono ?_
  rintro e w2 ⟨rfl, hb⟩
  have H2 := Lib.hid (H1.out.below hb)
  have k2 : w2.cell? ⟨gop, 1, none⟩ = some (.int .i64 l) := (hb.cell (p := ⟨gop, 1, none⟩) (World.block_lt_of_cell? w1 _ k1)).trans k1
  have HE := Lib.hid hE
  clear hb hE k0 k1 hQ hq
  go_wp2_with fail
  refine (docTake_arg H2.out.dl l HE.out).mono ?_
  rintro e w3 ⟨rfl, rfl⟩
  go_wp2_with fail
  go_ret
  exact ⟨_, _, rfl, H2.out, HA.out⟩
set_option maxRecDepth 100000 in
set_option maxHeartbeats 4000000 in
theorem jone1_no {w0 w : World} {g ga c0 n size gx : Nat} {u : Value} {vs : Nat → Value} {A : Nat → List Int} (h : J2 w0 w g ga c0 n size gx u vs A A) (hA : ∀ j, j < n → (A j).length ≤ size) (n8 : n ≤ 8) (h8 : size ≤ 8) (x : Int) (k : Nat) (hk : k < n) (hE : A k = []) :
    Calls Try.prog 42 #[.pointer (some ⟨g, 0, none⟩), .pointer (some ⟨gx, 0, none⟩), .agg #[.int .i64 1, .int .i64 k, .int .i64 x]] w (OneJ w0 g ga c0 n size gx u) := by
  obtain ⟨w1, hw1⟩ : ∃ w1, w1 = w.alloc (.cells #[.int .i64 1, .int .i64 k, .int .i64 x] 75) := ⟨_, rfl⟩
  obtain ⟨gop, hgop⟩ : ∃ gop, gop = w.heap.size := ⟨_, rfl⟩
  have hh1 : w1.heap[gop]? = some (.cells #[.int .i64 1, .int .i64 k, .int .i64 x] 75 (0, 0)) := by rw [hw1, hgop]; exact heap_alloc_new _ _
  have h1 : J2 w0 w1 g ga c0 n size gx u vs A A := by rw [hw1]; exact h.below ((Below.refl _ _).alloc (Nat.le_refl _) _)
  have H1 := Lib.hid h1
  have HH1 := Lib.hid hh1
  have HW := Lib.hid hw1
  have HG := Lib.hid hgop
  have HA := Lib.hid hA
  have k0 : w1.cell? ⟨gop, 0, none⟩ = some (.int .i64 1) := by rw [cell_of_row _ _ _ _ _ _ hh1]; rfl
  have k1 : w1.cell? ⟨gop, 1, none⟩ = some (.int .i64 k) := by rw [cell_of_row _ _ _ _ _ _ hh1]; rfl
  clear h h1 hh1 hw1 hgop hA
  go_enter Try.func42, Try.ntmps42
  go_wp2_with fail
  rw [← HW.out, ← HG.out]
  obtain ⟨Q, hQ, hq⟩ := H1.out.ln
  have hqk := hq k hk
  rw [hE] at hqk
  refine (takeL_no hQ k hqk).mono ?_
  rintro e w2 ⟨rfl, hb⟩
  have H2 := Lib.hid (H1.out.below hb)
  have k2 : w2.cell? ⟨gop, 1, none⟩ = some (.int .i64 k) := (hb.cell (p := ⟨gop, 1, none⟩) (World.block_lt_of_cell? w1 _ k1)).trans k1
  have HE := Lib.hid hE
  clear hb hE k0 k1 hQ hq hqk
  go_wp2_with fail
  refine (docTake_no H2.out.dl k hk HE.out).mono ?_
  rintro e w3 ⟨rfl, rfl⟩
  go_wp2_with fail
  go_ret
  exact ⟨_, _, rfl, H2.out, HA.out⟩
set_option maxRecDepth 100000 in
set_option maxHeartbeats 4000000 in
theorem jone1 {w0 w : World} {g ga c0 n size gx : Nat} {u : Value} {vs : Nat → Value} {A : Nat → List Int} (h : J2 w0 w g ga c0 n size gx u vs A A) (hA : ∀ j, j < n → (A j).length ≤ size) (n8 : n ≤ 8) (h8 : size ≤ 8) (x : Int) (k : Nat) (hk : k < n) (a : Int) (al : List Int) (hE : A k = a :: al) :
    Calls Try.prog 42 #[.pointer (some ⟨g, 0, none⟩), .pointer (some ⟨gx, 0, none⟩), .agg #[.int .i64 1, .int .i64 k, .int .i64 x]] w (OneJ w0 g ga c0 n size gx u) := by
  obtain ⟨w1, hw1⟩ : ∃ w1, w1 = w.alloc (.cells #[.int .i64 1, .int .i64 k, .int .i64 x] 75) := ⟨_, rfl⟩
  obtain ⟨gop, hgop⟩ : ∃ gop, gop = w.heap.size := ⟨_, rfl⟩
  have hh1 : w1.heap[gop]? = some (.cells #[.int .i64 1, .int .i64 k, .int .i64 x] 75 (0, 0)) := by rw [hw1, hgop]; exact heap_alloc_new _ _
  have h1 : J2 w0 w1 g ga c0 n size gx u vs A A := by rw [hw1]; exact h.below ((Below.refl _ _).alloc (Nat.le_refl _) _)
  have H1 := Lib.hid h1
  have HH1 := Lib.hid hh1
  have HW := Lib.hid hw1
  have HG := Lib.hid hgop
  have HA := Lib.hid hA
  have k0 : w1.cell? ⟨gop, 0, none⟩ = some (.int .i64 1) := by rw [cell_of_row _ _ _ _ _ _ hh1]; rfl
  have k1 : w1.cell? ⟨gop, 1, none⟩ = some (.int .i64 k) := by rw [cell_of_row _ _ _ _ _ _ hh1]; rfl
  clear h h1 hh1 hw1 hgop hA
  go_enter Try.func42, Try.ntmps42
  go_wp2_with fail
  rw [← HW.out, ← HG.out]
  obtain ⟨Q, hQ, hq⟩ := H1.out.ln
  have hqk := hq k hk
  rw [hE, List.map_cons] at hqk
  refine (takeB hQ k a (al.map (Value.int .i64)) hqk).mono ?_
  rintro e w2 ⟨rfl, hln, hmd, hbx⟩
  have H2 : Hid (J2 w0 w2 g ga c0 n size gx u vs (upd A k al) A) := H1.out.turna ⟨_, hln, setUpd hQ.hl hq k hk al⟩ hmd hbx
  have k2 : w2.cell? ⟨gop, 1, none⟩ = some (.int .i64 k) := by rw [cell_of_row _ _ _ _ _ _ (H1.out.kepta HH1.out hmd)]; rfl
  have hal : al.length ≤ size := by have := HA.out k hk; rw [hE] at this; simp at this; omega
  have HE := Lib.hid hE
  clear hln hmd hbx hE k0 k1 hQ hq hqk
  go_wp2_with fail
  refine (docTake H2.out.dl k hk a al HE.out (by omega)).mono ?_
  rintro e w3 ⟨rfl, v3, hd, hm, ha⟩
  have H3 := Lib.hid (H2.out.turnb hd hm ha)
  clear hd hm ha
  go_wp2_with fail
  go_ret
  exact ⟨_, _, rfl, H3.out, upd_fit HA.out k al hal⟩
set_option maxRecDepth 100000 in
set_option maxHeartbeats 4000000 in
theorem jone2 {w0 w : World} {g ga c0 n size gx : Nat} {u : Value} {vs : Nat → Value} {A : Nat → List Int} (h : J2 w0 w g ga c0 n size gx u vs A A) (hA : ∀ j, j < n → (A j).length ≤ size) (n8 : n ≤ 8) (h8 : size ≤ 8) (l x : Int) (hl0 : -9223372036854775808 ≤ l) (hl1 : l ≤ 9223372036854775807) :
    Calls Try.prog 42 #[.pointer (some ⟨g, 0, none⟩), .pointer (some ⟨gx, 0, none⟩), .agg #[.int .i64 2, .int .i64 l, .int .i64 x]] w (OneJ w0 g ga c0 n size gx u) := by
  obtain ⟨w1, hw1⟩ : ∃ w1, w1 = w.alloc (.cells #[.int .i64 2, .int .i64 l, .int .i64 x] 75) := ⟨_, rfl⟩
  obtain ⟨gop, hgop⟩ : ∃ gop, gop = w.heap.size := ⟨_, rfl⟩
  have hh1 : w1.heap[gop]? = some (.cells #[.int .i64 2, .int .i64 l, .int .i64 x] 75 (0, 0)) := by rw [hw1, hgop]; exact heap_alloc_new _ _
  have h1 : J2 w0 w1 g ga c0 n size gx u vs A A := by rw [hw1]; exact h.below ((Below.refl _ _).alloc (Nat.le_refl _) _)
  have H1 := Lib.hid h1
  have HH1 := Lib.hid hh1
  have HW := Lib.hid hw1
  have HG := Lib.hid hgop
  have HA := Lib.hid hA
  have k0 : w1.cell? ⟨gop, 0, none⟩ = some (.int .i64 2) := by rw [cell_of_row _ _ _ _ _ _ hh1]; rfl
  have k1 : w1.cell? ⟨gop, 1, none⟩ = some (.int .i64 l) := by rw [cell_of_row _ _ _ _ _ _ hh1]; rfl
  clear h h1 hh1 hw1 hgop hA
  go_enter Try.func42, Try.ntmps42
  go_wp2_with fail
  rw [← HW.out, ← HG.out]
  obtain ⟨Q, hQ, hq⟩ := H1.out.ln
  have hn1 := H1.out.n1
  refine (nextB hQ hn1 (fun ql hql y hy => ?_) l hl0 hl1).mono ?_
  · obtain ⟨i, hi⟩ := List.getElem?_of_mem hql
    have hin : i < n := by have := (List.getElem?_eq_some_iff.1 hi).1; have := hQ.hl; omega
    rw [hq i hin] at hi
    injection hi with hi
    rw [← hi] at hy
    obtain ⟨z, _, rfl⟩ := List.mem_map.1 hy
    exact ⟨z, rfl⟩
  rintro e w2 hN
  have hno : ∀ i, i < n → (Q[lnr l n i]? = some [] ↔ A (lnr l n i) = []) := fun i hi => by
    rw [hq _ (lnr_lt l n i hn1)]; simp
  rcases hN with ⟨j, y, ql, hj, hbef, hQj, rfl, hln, hmd, hbx⟩ | ⟨hall, rfl, hln, hb⟩
  · have hjn := lnr_lt l n j hn1
    obtain ⟨a, al, hAj⟩ : ∃ a al, A (lnr l n j) = a :: al := by
      rw [hq _ hjn] at hQj
      cases hA : A (lnr l n j) with
      | nil => rw [hA] at hQj; simp at hQj
      | cons a al => exact ⟨a, al, rfl⟩
    have hyl : y = .int .i64 a ∧ ql = al.map (Value.int .i64) := by
      rw [hq _ hjn, hAj] at hQj
      simp at hQj
      exact ⟨hQj.1.symm, hQj.2.symm⟩
    obtain ⟨rfl, rfl⟩ := hyl
    have H2 : Hid (J2 w0 w2 g ga c0 n size gx u vs (upd A (lnr l n j) al) A) := H1.out.turna ⟨_, hln, setUpd hQ.hl hq _ hjn al⟩ hmd hbx
    have k2 : w2.cell? ⟨gop, 1, none⟩ = some (.int .i64 l) := by rw [cell_of_row _ _ _ _ _ _ (H1.out.kepta HH1.out hmd)]; rfl
    have hal : al.length ≤ size := by have := HA.out _ hjn; rw [hAj] at this; simp at this; omega
    have HBEF : Hid (∀ i, i < j → A (lnr l n i) = []) := fun i hi => (hno i (by omega)).1 (hbef i hi)
    have HAJ := Lib.hid hAj
    have HN : Hid (J2 w0 w2 g ga c0 n size gx u vs (upd A (lnr l n j) al) A → True) := fun _ => trivial
    clear hln hmd hbx k0 k1 hQ hq hQj hno hbef hAj HN
    obtain ⟨kk, hkk⟩ : ∃ kk, kk = lnr l n j := ⟨_, rfl⟩
    have HKK := Lib.hid hkk
    rw [← hkk] at H2 hjn ⊢
    clear hkk
    go_wp2_with fail
    refine (docNext H2.out.dl hn1 n8 (fun i hi => Nat.le_trans (HA.out i hi) h8) l hl0 hl1).mono ?_
    rintro e w3 hD
    have hD2 : ∃ v3, e = .returned (.tuple #[.int .i64 kk, .int .i64 a, .bool true]) ∧ J2 w0 w3 g ga c0 n size gx u v3 (upd A kk al) (upd A kk al) := by
      rcases hD with ⟨j', y, ql, hj', hbef', hAj', rfl, v3, hd, hm, ha⟩ | ⟨hall, _⟩
      · have hjj : j' = j := by
          rcases Nat.lt_trichotomy j' j with h1 | h1 | h1
          · rw [HBEF.out j' h1] at hAj'; cases hAj'
          · exact h1
          · have := hbef' j h1; rw [HAJ.out] at this; cases this
        subst hjj
        rw [HAJ.out] at hAj'
        injection hAj' with e1 e2
        subst e1 e2
        rw [← HKK.out] at hd ha ⊢
        exact ⟨_, rfl, H2.out.turnb hd hm ha⟩
      · have := hall j hj; rw [HAJ.out] at this; cases this
    obtain ⟨v3, rfl, hJ3⟩ := hD2
    have H3 := Lib.hid hJ3
    clear hD hJ3
    go_wp2_with fail
    go_ret
    exact ⟨_, _, by simp, H3.out, upd_fit HA.out kk al hal⟩
  · have H2 := Lib.hid (H1.out.below hb)
    have k2 : w2.cell? ⟨gop, 1, none⟩ = some (.int .i64 l) := (hb.cell (p := ⟨gop, 1, none⟩) (World.block_lt_of_cell? w1 _ k1)).trans k1
    have HALL : Hid (∀ i, i < n → A (lnr l n i) = []) := fun i hi => (hno i hi).1 (hall i hi)
    clear hln hb k0 k1 hQ hq hno hall
    go_wp2_with fail
    refine (docNext H2.out.dl hn1 n8 (fun i hi => Nat.le_trans (HA.out i hi) h8) l hl0 hl1).mono ?_
    rintro e w3 hD
    have hD2 : e = .returned (.tuple #[.int .i64 0, .int .i64 0, .bool false]) ∧ w2 = w3 := by
      rcases hD with ⟨j', y, ql, hj', hbef', hAj', _⟩ | ⟨_, h1, h2⟩
      · rw [HALL.out j' hj'] at hAj'; cases hAj'
      · exact ⟨h1, h2⟩
    obtain ⟨rfl, rfl⟩ := hD2
    clear hD
    go_wp2_with fail
    go_ret
    exact ⟨_, _, by simp, H2.out, HA.out⟩
set_option maxRecDepth 100000 in
set_option maxHeartbeats 4000000 in
theorem jone9 {w0 w : World} {g ga c0 n size gx : Nat} {u : Value} {vs : Nat → Value} {A : Nat → List Int} (h : J2 w0 w g ga c0 n size gx u vs A A) (hA : ∀ j, j < n → (A j).length ≤ size) (n8 : n ≤ 8) (h8 : size ≤ 8) (l x : Int) (kd : Int) (e0 : (kd == 0) = false) (e1 : (kd == 1) = false) (e2 : (kd == 2) = false) (e3 : (kd == 3) = false) (hl0 : -9223372036854775808 ≤ l) (hl1 : l ≤ 9223372036854775807) :
    Calls Try.prog 42 #[.pointer (some ⟨g, 0, none⟩), .pointer (some ⟨gx, 0, none⟩), .agg #[.int .i64 kd, .int .i64 l, .int .i64 x]] w (OneJ w0 g ga c0 n size gx u) := by
  obtain ⟨w1, hw1⟩ : ∃ w1, w1 = w.alloc (.cells #[.int .i64 kd, .int .i64 l, .int .i64 x] 75) := ⟨_, rfl⟩
  obtain ⟨gop, hgop⟩ : ∃ gop, gop = w.heap.size := ⟨_, rfl⟩
  have hh1 : w1.heap[gop]? = some (.cells #[.int .i64 kd, .int .i64 l, .int .i64 x] 75 (0, 0)) := by rw [hw1, hgop]; exact heap_alloc_new _ _
  have h1 : J2 w0 w1 g ga c0 n size gx u vs A A := by rw [hw1]; exact h.below ((Below.refl _ _).alloc (Nat.le_refl _) _)
  have H1 := Lib.hid h1
  have HH1 := Lib.hid hh1
  have HW := Lib.hid hw1
  have HG := Lib.hid hgop
  have HA := Lib.hid hA
  have k0 : w1.cell? ⟨gop, 0, none⟩ = some (.int .i64 kd) := by rw [cell_of_row _ _ _ _ _ _ hh1]; rfl
  have k1 : w1.cell? ⟨gop, 1, none⟩ = some (.int .i64 l) := by rw [cell_of_row _ _ _ _ _ _ hh1]; rfl
  clear h h1 hh1 hw1 hgop hA
  go_enter Try.func42, Try.ntmps42
  go_wp2_with fail
  try rw [← HW.out]
  go_ret
  exact ⟨_, _, rfl, H1.out, HA.out⟩
end Go.Proofs.Ytfdihgahegfamaa
