/-
  Contracts of the functions that the statements of package entry go through: the values of tenants. Condition: the slot's sum is 32 bytes.
-/
import Derived.Test.YtbhkhkiidaemcaaEE
namespace Go.Proofs.Ytbhkhkiidaemcaa
open Go.RowKit
def lim (x : Int) : Bool := decide (0 ≤ x ∧ x ≤ 2048)
theorem lim_yes {x : Int} (h : 0 ≤ x ∧ x ≤ 2048) : lim x = true := decide_eq_true h
theorem lim_no {x : Int} (h : ¬ (0 ≤ x ∧ x ≤ 2048)) : lim x = false := decide_eq_false h
theorem limC (x : Int) (w : World) : Calls Try.prog 46 #[.int .i64 x] w fun e w' => e = .returned (.bool (lim x)) ∧ w = w' := by
  by_cases h1 : 0 ≤ x
  · by_cases h2 : x ≤ 2048
    · have E := Lib.hid (lim_yes ⟨h1, h2⟩)
      go_enter Try.func46, Try.ntmps46
      go_wp2
      go_ret
      exact ⟨by rw [E.out]; rfl, rfl⟩
    · have E := Lib.hid (lim_no (fun h => h2 h.2))
      go_enter Try.func46, Try.ntmps46
      go_wp2
      go_ret
      exact ⟨by rw [E.out]; rfl, rfl⟩
  · have E := Lib.hid (lim_no (fun h => h1 h.1))
    go_enter Try.func46, Try.ntmps46
    go_wp2
    go_ret
    exact ⟨by rw [E.out]; rfl, rfl⟩
def nMay (r q c : Int) : Prop := (0 ≤ r ∧ r ≤ 2048) ∧ (0 ≤ q ∧ q ≤ 2048) ∧ (0 ≤ c ∧ c ≤ 1)
instance (r q c : Int) : Decidable (nMay r q c) := by unfold nMay; infer_instance
def nP (z : List Int) (r q c : Int) : List (List Int) := [z, be 2 r, be 2 q, be 1 c]
def nW (z : List Int) (r q c : Int) : List Int := fv (nP z r q c)
theorem nW_len {r q c : Int} {z : List Int} (hl : z.length = 32) : (nW z r q c).length = 44 := fv_len (by simp [nP, be_len, hl])
theorem nW_byt {r q c : Int} {z : List Int} (hz : Byt z) : Byt (nW z r q c) := fv_byt (by simpa [nP] using hz.append ((be_byt 2 r).append ((be_byt 2 q).append (be_byt 1 c))))
def ncells (z : List Int) (r q c : Int) : Array Value := (z.map (Value.int .u8) ++ [Value.int .i64 r, Value.int .i64 q, Value.int .i64 c]).toArray
theorem nc {z : List Int} {r q c : Int} (hl : z.length = 32) {W : World} {g : Nat} {ty : TypeId} (e : W.heap[g]? = some (.cells (ncells z r q c) ty (0, 0))) :
    W.cell? ⟨g, 32, none⟩ = some (.int .i64 r) ∧ W.cell? ⟨g, 33, none⟩ = some (.int .i64 q) ∧ W.cell? ⟨g, 34, none⟩ = some (.int .i64 c) := by
  rw [cell_of_row _ _ _ _ _ _ e, cell_of_row _ _ _ _ _ _ e, cell_of_row _ _ _ _ _ _ e]
  simp [ncells, hl]
theorem nsum {z : List Int} {r q c : Int} (hz : Byt z) (hl : z.length = 32) {W : World} {g : Nat} {ty : TypeId} (e : W.heap[g]? = some (.cells (ncells z r q c) ty (0, 0))) : Sees W (.slice (some ⟨g, 0, none⟩) 32 32) z := by
  refine ⟨hz, .inr (.inr ⟨g, 0, 32, by rw [hl], fun e => by rw [e] at hl; simp at hl, by rw [hl]; exact Nat.le_refl _, by decide, fun i hi => ?_⟩)⟩
  rw [cell_of_row _ _ _ _ _ _ e]
  simp [ncells, nth, List.getD, hi, List.getElem?_append_left (show i < (z.map (Value.int .u8)).length by simpa using hi)]
set_option maxRecDepth 100000 in
set_option maxHeartbeats 4000000 in
theorem writeTen_no (z : List Int) (r q c : Int) (hl : z.length = 32) (hm : ¬ nMay r q c) (w : World) : Calls Try.prog 27 #[.agg (ncells z r q c)] w (WrP w (nMay r q c) (nW z r q c)) := by
  have NO : Hid (∀ W', Below w.heap.size w W' → WrP w (nMay r q c) (nW z r q c) (.returned (.tuple #[.agg (bcells (zs 44)), .int .i64 3])) W') := fun W' hb => wrP_no hm hb
  have HZ := z38
  have HB := b38
  have BE : Hid (Below w.heap.size w ((w.alloc (.cells (ncells z r q c) 57)).alloc (.cells (bcells (zs 44)) 38))) := ((Below.refl _ _).alloc (Nat.le_refl _) _).alloc (by simp) _
  have G1 := Lib.hid (heap_alloc2_new w (.cells (ncells z r q c) 57) (.cells (bcells (zs 44)) 38))
  have G0 : ((w.alloc (.cells (ncells z r q c) 57)).alloc (.cells (bcells (zs 44)) 38)).heap[w.heap.size]? = some (.cells (ncells z r q c) 57 (0, 0)) := by
    rw [Below.heap_alloc _ _ _ (by simp)]; exact heap_alloc_new w _
  obtain ⟨c0, c1, c2⟩ := nc hl G0
  have IZ := Lib.hid (i38 (zs_len 44))
  have OC := Lib.hid (one_cells (zs 44))
  have U38 := Lib.hid Try.underlying38
  have L1 := Lib.hid (fun W => limC r W)
  have L2 := Lib.hid (fun W => limC q W)
  have L1n : Hid (¬ (0 ≤ r ∧ r ≤ 2048) → lim r = false) := lim_no
  have L1y : Hid ((0 ≤ r ∧ r ≤ 2048) → lim r = true) := lim_yes
  have L2n : Hid (¬ (0 ≤ q ∧ q ≤ 2048) → lim q = false) := lim_no
  have L2y : Hid ((0 ≤ q ∧ q ≤ 2048) → lim q = true) := lim_yes
  have HM := Lib.hid hm
  clear G0 hl hm
  obtain ⟨W0, hW0⟩ : ∃ W0, W0 = (w.alloc (.cells (ncells z r q c) 57)).alloc (.cells (bcells (zs 44)) 38) := ⟨_, rfl⟩
  rw [← hW0] at BE G1 c0 c1 c2
  have HW0 := Lib.hid hW0
  clear hW0
  generalize bcells (zs 44) = Z at *
  generalize ncells z r q c = K at *
  by_cases a : 0 ≤ r ∧ r ≤ 2048
  · have e1 := L1y.out a
    rw [e1] at L1
    clear L1y L1n e1
    by_cases b : 0 ≤ q ∧ q ≤ 2048
    · have e2 := L2y.out b
      rw [e2] at L2
      clear L2y L2n e2
      by_cases d : c < 0
      · clear a b
        go_enter Try.func27, Try.ntmps27
        go_upto_region 1 with (fail)
        rw [← HW0.out]
        go_wp2_with fail
        refine (L1.out _).mono ?_
        rintro e w' ⟨rfl, rfl⟩
        go_wp2_with fail
        refine (L2.out _).mono ?_
        rintro e w' ⟨rfl, rfl⟩
        go_wp2_with (refine wpList_store_row rfl 38 (.tmp 2) (.tmp 24) rfl (w.heap.size + 1) Z rfl rfl 38 Z G1.out IZ.out rfl OC.out ?_)
        exact bodyPost_ret (v := .tuple #[.agg Z, .int .i64 3]) (results_cell_tmp Try.results27 _ _ (w.heap.size + 1) 38 _ (0, 0) _ rfl (setRow_heap _ _ _ _ _ _ G1.out) U38.out rfl IZ.out) rfl (NO.out _ (BE.out.trans (below_row _ _ (by omega))))
      · have d2 : 1 < c := by
          have := HM.out; unfold nMay at this; omega
        clear a b
        go_enter Try.func27, Try.ntmps27
        go_upto_region 1 with (fail)
        rw [← HW0.out]
        go_wp2_with fail
        refine (L1.out _).mono ?_
        rintro e w' ⟨rfl, rfl⟩
        go_wp2_with fail
        refine (L2.out _).mono ?_
        rintro e w' ⟨rfl, rfl⟩
        go_wp2_with (refine wpList_store_row rfl 38 (.tmp 2) (.tmp 24) rfl (w.heap.size + 1) Z rfl rfl 38 Z G1.out IZ.out rfl OC.out ?_)
        exact bodyPost_ret (v := .tuple #[.agg Z, .int .i64 3]) (results_cell_tmp Try.results27 _ _ (w.heap.size + 1) 38 _ (0, 0) _ rfl (setRow_heap _ _ _ _ _ _ G1.out) U38.out rfl IZ.out) rfl (NO.out _ (BE.out.trans (below_row _ _ (by omega))))
    · have e2 := L2n.out b
      rw [e2] at L2
      clear L2y L2n e2 a b
      go_enter Try.func27, Try.ntmps27
      go_upto_region 1 with (fail)
      rw [← HW0.out]
      go_wp2_with fail
      refine (L1.out _).mono ?_
      rintro e w' ⟨rfl, rfl⟩
      go_wp2_with fail
      refine (L2.out _).mono ?_
      rintro e w' ⟨rfl, rfl⟩
      go_wp2_with (refine wpList_store_row rfl 38 (.tmp 2) (.tmp 24) rfl (w.heap.size + 1) Z rfl rfl 38 Z G1.out IZ.out rfl OC.out ?_)
      exact bodyPost_ret (v := .tuple #[.agg Z, .int .i64 3]) (results_cell_tmp Try.results27 _ _ (w.heap.size + 1) 38 _ (0, 0) _ rfl (setRow_heap _ _ _ _ _ _ G1.out) U38.out rfl IZ.out) rfl (NO.out _ (BE.out.trans (below_row _ _ (by omega))))
  · have e1 := L1n.out a
    rw [e1] at L1
    clear L1y L1n e1 a
    go_enter Try.func27, Try.ntmps27
    go_upto_region 1 with (fail)
    rw [← HW0.out]
    go_wp2_with fail
    refine (L1.out _).mono ?_
    rintro e w' ⟨rfl, rfl⟩
    go_wp2_with (refine wpList_store_row rfl 38 (.tmp 2) (.tmp 24) rfl (w.heap.size + 1) Z rfl rfl 38 Z G1.out IZ.out rfl OC.out ?_)
    exact bodyPost_ret (v := .tuple #[.agg Z, .int .i64 3]) (results_cell_tmp Try.results27 _ _ (w.heap.size + 1) 38 _ (0, 0) _ rfl (setRow_heap _ _ _ _ _ _ G1.out) U38.out rfl IZ.out) rfl (NO.out _ (BE.out.trans (below_row _ _ (by omega))))
set_option maxRecDepth 100000 in
set_option maxHeartbeats 8000000 in
theorem writeTen_yes (z : List Int) (r q c : Int) (hz : Byt z) (hl : z.length = 32) (hm : nMay r q c) (w : World) : Calls Try.prog 27 #[.agg (ncells z r q c)] w (WrP w (nMay r q c) (nW z r q c)) := by
  have YES : Hid (∀ W', Below w.heap.size w W' → WrP w (nMay r q c) (nW z r q c) (.returned (.tuple #[.agg (bcells (nW z r q c)), .int .i64 0])) W') := fun W' hb => wrP_yes hm hb
  obtain ⟨⟨r0, r1⟩, ⟨q0, q1⟩, d0, d1⟩ := hm
  have HZ := z38
  have BE : Hid (Below w.heap.size w ((w.alloc (.cells (ncells z r q c) 57)).alloc (.cells (bcells (zs 44)) 38))) := ((Below.refl _ _).alloc (Nat.le_refl _) _).alloc (by simp) _
  have G1 := Lib.hid (heap_alloc2_new w (.cells (ncells z r q c) 57) (.cells (bcells (zs 44)) 38))
  have G0 : Hid (((w.alloc (.cells (ncells z r q c) 57)).alloc (.cells (bcells (zs 44)) 38)).heap[w.heap.size]? = some (.cells (ncells z r q c) 57 (0, 0))) := by
    show _ = _
    rw [Below.heap_alloc _ _ _ (by simp)]; exact heap_alloc_new w _
  obtain ⟨c0, c1, c2⟩ := nc hl G0.out
  have SM := Lib.hid (nsum hz hl G0.out)
  have L1 := Lib.hid (fun W => limC r W)
  have L2 := Lib.hid (fun W => limC q W)
  rw [lim_yes ⟨r0, r1⟩] at L1
  rw [lim_yes ⟨q0, q1⟩] at L2
  have P1 := Lib.hid (fun W => putb16 r r0 (by omega) W)
  have P2 := Lib.hid (fun W => putb16 q q0 (by omega) W)
  have P3 := Lib.hid (fun W => putb8 c d0 (by omega) W)
  have VA : Hid (∀ (W : World) (g i j k : Nat), W.heap[g]? = some (.cells #[.slice (some ⟨w.heap.size, 0, none⟩) 32 32, .slice (some ⟨i, 0, none⟩) 2 2, .slice (some ⟨j, 0, none⟩) 2 2, .slice (some ⟨k, 0, none⟩) 1 1] 43 (0, 0)) → Sees W (.slice (some ⟨w.heap.size, 0, none⟩) 32 32) z →
      Sees W (.slice (some ⟨i, 0, none⟩) 2 2) (be 2 r) → Sees W (.slice (some ⟨j, 0, none⟩) 2 2) (be 2 q) → Sees W (.slice (some ⟨k, 0, none⟩) 1 1) (be 1 c) →
      Calls Try.prog 32 #[.slice (some ⟨g, 0, none⟩) 4 4] W fun e w' => e = .returned (.agg (bcells (nW z r q c))) ∧ Below W.heap.size W w') := fun W g i j k hg hs ha hb hc =>
    valueS W g [_, _, _, _] (nP z r q c) (nW z r q c) 4 rfl rfl (by simp [nP]) (by simp [nP, be_len, hl]) hg ⟨hs, ne_of_len hl, ha, be_ne 1 _, hb, be_ne 1 _, hc, be_ne 0 _, trivial⟩
  have IZ := Lib.hid (i38 (nW_len (r := r) (q := q) (c := c) hl))
  have SZ := Lib.hid (bcells_sz (show (zs 44).length = (nW z r q c).length by rw [zs_len, nW_len hl]))
  have OC := Lib.hid (one_cells (nW z r q c))
  have U38 := Lib.hid Try.underlying38
  have WR := Lib.hid (show IntKind.u16.wrap r = r from by rw [IntKind.wrap_u16]; omega)
  have WQ := Lib.hid (show IntKind.u16.wrap q = q from by rw [IntKind.wrap_u16]; omega)
  have WC := Lib.hid (show IntKind.u8.wrap c = c from by rw [IntKind.wrap_u8]; omega)
  obtain ⟨W0, hW0⟩ : ∃ W0, W0 = (w.alloc (.cells (ncells z r q c) 57)).alloc (.cells (bcells (zs 44)) 38) := ⟨_, rfl⟩
  rw [← hW0] at BE G1 G0 SM c0 c1 c2
  have HW0 := Lib.hid hW0
  have CC : Hid (∀ W : World, W.heap[w.heap.size]? = some (.cells (ncells z r q c) 57 (0, 0)) → W.cell? ⟨w.heap.size, 32, none⟩ = some (.int .i64 r) ∧ W.cell? ⟨w.heap.size, 33, none⟩ = some (.int .i64 q) ∧ W.cell? ⟨w.heap.size, 34, none⟩ = some (.int .i64 c)) := fun W h => nc hl h
  have d2 : ¬ c < 0 := by omega
  have d3 : ¬ 1 < c := by omega
  clear hW0 hl hz r0 r1 q0 q1 d0 d1
  generalize bcells (zs 44) = Z at *
  generalize hC : bcells (nW z r q c) = C at *
  clear hC
  generalize ncells z r q c = K at *
  go_enter Try.func27, Try.ntmps27
  go_upto_region 1 with (fail)
  rw [← HW0.out]
  go_upto_region 3 with ((first
    | (go_at_call_of 46 (Value.int .i64 r); refine (L1.out _).mono ?_; rintro e w' ⟨rfl, rfl⟩)
    | (go_at_call_of 46 (Value.int .i64 q); refine (L2.out _).mono ?_; rintro e w' ⟨rfl, rfl⟩)))
  refine wp_region_held_drew (S := fun W => Below w.heap.size w W ∧ W.heap[w.heap.size]? = some (.cells K 57 (0, 0))) (by kernel_rfl) (⟨BE.out.drew, G0.out⟩) (fun hS => ?_)
  have hb0 : Below W0.heap.size W0 W0.drew := (Below.refl _ _).drew
  have qG1 := (hb0.block _ (blk_lt G1.out)).trans G1.out
  have qSM := SM.out.below hb0
  clear hb0 G1 SM
  generalize W0.drew = Wts at hS qG1 qSM ⊢
  have G1 := Lib.hid qG1
  have SM := Lib.hid qSM
  clear qG1 qSM
  refine' wpAnyH_take (i := 0) ?h1x0t ?hsx0t ?hfx0t ?hrx0t ?hQx0t (Or.inl ⟨?hwx0t, ?hyx0t⟩) hS ?restx0t
  case h1x0t => (simp only [List.getElem?_toArray, List.getElem?_cons_zero]; rfl)
  case hsx0t => kernel_rfl
  case hfx0t => kernel_rfl
  case hrx0t => kernel_rfl
  case hQx0t => exact fun _ _ _ h => h
  case hwx0t => rfl
  case hyx0t =>
    intro W hW
    go_simp
    try with_reducible rfl
  simp only [Act.put, List.setIfInBounds_toArray, List.set_cons_succ, List.set_cons_zero]
  refine' wpAnyH_take (i := 2) ?h1x2t ?hsx2t ?hfx2t ?hrx2t ?hQx2t (Or.inl ⟨?hwx2t, ?hyx2t⟩) hS ?restx2t
  case h1x2t => (simp only [List.getElem?_toArray, List.getElem?_cons_succ, List.getElem?_cons_zero]; rfl)
  case hsx2t => kernel_rfl
  case hfx2t => kernel_rfl
  case hrx2t => kernel_rfl
  case hQx2t => exact fun _ _ _ h => h
  case hwx2t => rfl
  case hyx2t =>
    intro W hW
    go_simp
    try with_reducible rfl
  simp only [Act.put, List.setIfInBounds_toArray, List.set_cons_succ, List.set_cons_zero]
  refine' wpAnyH_take (i := 6) ?h1x6t ?hsx6t ?hfx6t ?hrx6t ?hQx6t (Or.inl ⟨?hwx6t, ?hyx6t⟩) hS ?restx6t
  case h1x6t => (simp only [List.getElem?_toArray, List.getElem?_cons_succ, List.getElem?_cons_zero]; rfl)
  case hsx6t => kernel_rfl
  case hfx6t => kernel_rfl
  case hrx6t => kernel_rfl
  case hQx6t => exact fun _ _ _ h => h
  case hwx6t => rfl
  case hyx6t =>
    intro W hW
    go_simp
    try with_reducible rfl
  simp only [Act.put, List.setIfInBounds_toArray, List.set_cons_succ, List.set_cons_zero]
  refine' wpAnyH_take (i := 10) ?h1x10t ?hsx10t ?hfx10t ?hrx10t ?hQx10t (Or.inl ⟨?hwx10t, ?hyx10t⟩) hS ?restx10t
  case h1x10t => (simp only [List.getElem?_toArray, List.getElem?_cons_succ, List.getElem?_cons_zero]; rfl)
  case hsx10t => kernel_rfl
  case hfx10t => kernel_rfl
  case hrx10t => kernel_rfl
  case hQx10t => exact fun _ _ _ h => h
  case hwx10t => rfl
  case hyx10t =>
    intro W hW
    go_simp
    try with_reducible rfl
  simp only [Act.put, List.setIfInBounds_toArray, List.set_cons_succ, List.set_cons_zero]
  refine' wpAnyH_take (i := 1) ?h1x1t ?hsx1t ?hfx1t ?hrx1t ?hQx1t (Or.inl ⟨?hwx1t, ?hyx1t⟩) hS ?restx1t
  case h1x1t => (simp only [List.getElem?_toArray, List.getElem?_cons_succ, List.getElem?_cons_zero]; rfl)
  case hsx1t => kernel_rfl
  case hfx1t => kernel_rfl
  case hrx1t => kernel_rfl
  case hQx1t => exact fun _ _ _ h => h
  case hwx1t => rfl
  case hyx1t =>
    intro W hW
    go_simp
    try with_reducible rfl
  simp only [Act.put, List.setIfInBounds_toArray, List.set_cons_succ, List.set_cons_zero]
  refine' wpAnyH_take (i := 3) ?h1x3t ?hsx3t ?hfx3t ?hrx3t ?hQx3t (Or.inl ⟨?hwx3t, ?hyx3t⟩) hS ?restx3t
  case h1x3t => (simp only [List.getElem?_toArray, List.getElem?_cons_succ, List.getElem?_cons_zero]; rfl)
  case hsx3t => kernel_rfl
  case hfx3t => kernel_rfl
  case hrx3t => kernel_rfl
  case hQx3t => exact fun _ _ _ h => h
  case hwx3t => rfl
  case hyx3t =>
    intro W hW
    have dd := (CC.out _ hW.2).1
    go_simp
    try with_reducible rfl
  simp only [Act.put, List.setIfInBounds_toArray, List.set_cons_succ, List.set_cons_zero]
  refine' wpAnyH_take (i := 7) ?h1x7t ?hsx7t ?hfx7t ?hrx7t ?hQx7t (Or.inl ⟨?hwx7t, ?hyx7t⟩) hS ?restx7t
  case h1x7t => (simp only [List.getElem?_toArray, List.getElem?_cons_succ, List.getElem?_cons_zero]; rfl)
  case hsx7t => kernel_rfl
  case hfx7t => kernel_rfl
  case hrx7t => kernel_rfl
  case hQx7t => exact fun _ _ _ h => h
  case hwx7t => rfl
  case hyx7t =>
    intro W hW
    have dd := (CC.out _ hW.2).2.1
    go_simp
    try with_reducible rfl
  simp only [Act.put, List.setIfInBounds_toArray, List.set_cons_succ, List.set_cons_zero]
  refine' wpAnyH_take (i := 11) ?h1x11t ?hsx11t ?hfx11t ?hrx11t ?hQx11t (Or.inl ⟨?hwx11t, ?hyx11t⟩) hS ?restx11t
  case h1x11t => (simp only [List.getElem?_toArray, List.getElem?_cons_succ, List.getElem?_cons_zero]; rfl)
  case hsx11t => kernel_rfl
  case hfx11t => kernel_rfl
  case hrx11t => kernel_rfl
  case hQx11t => exact fun _ _ _ h => h
  case hwx11t => rfl
  case hyx11t =>
    intro W hW
    have dd := (CC.out _ hW.2).2.2
    go_simp
    try with_reducible rfl
  simp only [Act.put, List.setIfInBounds_toArray, List.set_cons_succ, List.set_cons_zero]
  refine' wpAnyH_take (i := 4) ?h1x4t ?hsx4t ?hfx4t ?hrx4t ?hQx4t (Or.inl ⟨?hwx4t, ?hyx4t⟩) hS ?restx4t
  case h1x4t => (simp only [List.getElem?_toArray, List.getElem?_cons_succ, List.getElem?_cons_zero]; rfl)
  case hsx4t => kernel_rfl
  case hfx4t => kernel_rfl
  case hrx4t => kernel_rfl
  case hQx4t => exact fun _ _ _ h => h
  case hwx4t => rfl
  case hyx4t =>
    intro W hW
    have dd := WR.out
    go_simp
    try with_reducible rfl
  simp only [Act.put, List.setIfInBounds_toArray, List.set_cons_succ, List.set_cons_zero]
  refine' wpAnyH_take (i := 8) ?h1x8t ?hsx8t ?hfx8t ?hrx8t ?hQx8t (Or.inl ⟨?hwx8t, ?hyx8t⟩) hS ?restx8t
  case h1x8t => (simp only [List.getElem?_toArray, List.getElem?_cons_succ, List.getElem?_cons_zero]; rfl)
  case hsx8t => kernel_rfl
  case hfx8t => kernel_rfl
  case hrx8t => kernel_rfl
  case hQx8t => exact fun _ _ _ h => h
  case hwx8t => rfl
  case hyx8t =>
    intro W hW
    have dd := WQ.out
    go_simp
    try with_reducible rfl
  simp only [Act.put, List.setIfInBounds_toArray, List.set_cons_succ, List.set_cons_zero]
  refine' wpAnyH_take (i := 12) ?h1x12t ?hsx12t ?hfx12t ?hrx12t ?hQx12t (Or.inl ⟨?hwx12t, ?hyx12t⟩) hS ?restx12t
  case h1x12t => (simp only [List.getElem?_toArray, List.getElem?_cons_succ, List.getElem?_cons_zero]; rfl)
  case hsx12t => kernel_rfl
  case hfx12t => kernel_rfl
  case hrx12t => kernel_rfl
  case hQx12t => exact fun _ _ _ h => h
  case hwx12t => rfl
  case hyx12t =>
    intro W hW
    have dd := WC.out
    go_simp
    try with_reducible rfl
  simp only [Act.put, List.setIfInBounds_toArray, List.set_cons_succ, List.set_cons_zero]
  refine wpAnyH_ready (rs := [5]) (by kernel_rfl) (by simp) ?_
  refine' (AllReadyH.cons ?hoc5t (fun K hK => ?stc5t) AllReadyH.nil)
  case hoc5t => (simp only [List.getElem?_toArray, List.getElem?_cons_succ, List.getElem?_cons_zero]; rfl)
  go_simp
  refine (P1.out Wts).mono ?_
  rintro e Wtx5 ⟨ga, rfl, hs, hb, hn⟩
  have G1 := Lib.hid ((hb.block _ (blk_lt G1.out)).trans G1.out)
  have SM := Lib.hid (SM.out.below hb)
  have Sa := Lib.hid hs
  clear hs hn
  go_wp2_with fail
  refine hK.out _ _ (⟨hS.1.trans (hb.mono hS.1.size), (hb.block _ (blk_lt hS.2)).trans hS.2⟩) (fun hHeld => ?_)
  clear hK K
  try simp only [Act.put, List.setIfInBounds_toArray, List.set_cons_succ, List.set_cons_zero]
  clear hS
  have hS := hHeld
  clear hHeld
  clear hb
  refine wpAnyH_ready (rs := [9]) (by kernel_rfl) (by simp) ?_
  refine' (AllReadyH.cons ?hoc9tx5 (fun K hK => ?stc9tx5) AllReadyH.nil)
  case hoc9tx5 => (simp only [List.getElem?_toArray, List.getElem?_cons_succ, List.getElem?_cons_zero]; rfl)
  go_simp
  refine (P2.out Wtx5).mono ?_
  rintro e Wtx5x9 ⟨gb, rfl, hs, hb, hn⟩
  have G1 := Lib.hid ((hb.block _ (blk_lt G1.out)).trans G1.out)
  have SM := Lib.hid (SM.out.below hb)
  have Sa := Lib.hid (Sa.out.below hb)
  have Sb := Lib.hid hs
  clear hs hn
  go_wp2_with fail
  refine hK.out _ _ (⟨hS.1.trans (hb.mono hS.1.size), (hb.block _ (blk_lt hS.2)).trans hS.2⟩) (fun hHeld => ?_)
  clear hK K
  try simp only [Act.put, List.setIfInBounds_toArray, List.set_cons_succ, List.set_cons_zero]
  clear hS
  have hS := hHeld
  clear hHeld
  clear hb
  refine wpAnyH_ready (rs := [13]) (by kernel_rfl) (by simp) ?_
  refine' (AllReadyH.cons ?hoc13tx5x9 (fun K hK => ?stc13tx5x9) AllReadyH.nil)
  case hoc13tx5x9 => (simp only [List.getElem?_toArray, List.getElem?_cons_succ, List.getElem?_cons_zero]; rfl)
  go_simp
  refine (P3.out Wtx5x9).mono ?_
  rintro e Wtx5x9x13 ⟨gc, rfl, hs, hb, hn⟩
  have G1 := Lib.hid ((hb.block _ (blk_lt G1.out)).trans G1.out)
  have SM := Lib.hid (SM.out.below hb)
  have Sa := Lib.hid (Sa.out.below hb)
  have Sb := Lib.hid (Sb.out.below hb)
  have Sc := Lib.hid hs
  clear hs hn
  go_wp2_with fail
  refine hK.out _ _ (⟨hS.1.trans (hb.mono hS.1.size), (hb.block _ (blk_lt hS.2)).trans hS.2⟩) (fun hHeld => ?_)
  clear hK K
  try simp only [Act.put, List.setIfInBounds_toArray, List.set_cons_succ, List.set_cons_zero]
  clear hS
  have hS := hHeld
  clear hHeld
  clear hb
  refine wpAnyH_ready (rs := [14]) (by kernel_rfl) (by simp) ?_
  refine' (AllReadyH.cons ?hoc14tx5x9x13 (fun K hK => ?stc14tx5x9x13) AllReadyH.nil)
  case hoc14tx5x9x13 => (simp only [List.getElem?_toArray, List.getElem?_cons_succ, List.getElem?_cons_zero]; rfl)
  go_simp
  have hb := (Below.refl Wtx5x9x13.heap.size Wtx5x9x13).alloc (Nat.le_refl _) (.cells #[.slice (some ⟨w.heap.size, 0, none⟩) 32 32, .slice (some ⟨ga, 0, none⟩) 2 2, .slice (some ⟨gb, 0, none⟩) 2 2, .slice (some ⟨gc, 0, none⟩) 1 1] 43)
  refine hK.out _ _ (⟨hS.1.trans (hb.mono hS.1.size), (hb.block _ (blk_lt hS.2)).trans hS.2⟩) (fun hHeld => ?_)
  clear hK K
  try simp only [Act.put, List.setIfInBounds_toArray, List.set_cons_succ, List.set_cons_zero]
  have qGP := heap_alloc_new Wtx5x9x13 (.cells #[.slice (some ⟨w.heap.size, 0, none⟩) 32 32, .slice (some ⟨ga, 0, none⟩) 2 2, .slice (some ⟨gb, 0, none⟩) 2 2, .slice (some ⟨gc, 0, none⟩) 1 1] 43)
  have hgp := hS.1.size
  have qG1 := (hb.block _ (blk_lt G1.out)).trans G1.out
  have qSM := SM.out.below hb
  have qSa := Sa.out.below hb
  have qSb := Sb.out.below hb
  have qSc := Sc.out.below hb
  clear hS
  have hS := hHeld
  clear hHeld
  clear hb
  clear G1 SM Sa Sb Sc
  generalize Wtx5x9x13.alloc (.cells #[.slice (some ⟨w.heap.size, 0, none⟩) 32 32, .slice (some ⟨ga, 0, none⟩) 2 2, .slice (some ⟨gb, 0, none⟩) 2 2, .slice (some ⟨gc, 0, none⟩) 1 1] 43) = Wtx5x9x13x14 at *
  generalize Wtx5x9x13.heap.size = gp at *
  have G1 := Lib.hid qG1
  have SM := Lib.hid qSM
  have Sa := Lib.hid qSa
  have Sb := Lib.hid qSb
  have Sc := Lib.hid qSc
  have GP := Lib.hid qGP
  clear qG1 qSM qSa qSb qSc qGP
  refine wpAnyH_ready (rs := [15]) (by kernel_rfl) (by simp) ?_
  refine' (AllReadyH.cons ?hoc15tx5x9x13x14 (fun K hK => ?stc15tx5x9x13x14) AllReadyH.nil)
  case hoc15tx5x9x13x14 => (simp only [List.getElem?_toArray, List.getElem?_cons_succ, List.getElem?_cons_zero]; rfl)
  go_simp
  refine (VA.out Wtx5x9x13x14 _ _ _ _ GP.out SM.out Sa.out Sb.out Sc.out).mono ?_
  rintro e Wtx5x9x13x14x15 ⟨rfl, hb⟩
  have G1 := Lib.hid ((hb.block _ (blk_lt G1.out)).trans G1.out)
  have SM := Lib.hid (SM.out.below hb)
  have Sa := Lib.hid (Sa.out.below hb)
  have Sb := Lib.hid (Sb.out.below hb)
  have Sc := Lib.hid (Sc.out.below hb)
  have GP := Lib.hid ((hb.block _ (blk_lt GP.out)).trans GP.out)
  go_wp2_with fail
  refine hK.out _ _ (⟨hS.1.trans (hb.mono hS.1.size), (hb.block _ (blk_lt hS.2)).trans hS.2⟩) (fun hHeld => ?_)
  clear hK K
  try simp only [Act.put, List.setIfInBounds_toArray, List.set_cons_succ, List.set_cons_zero]
  clear hS
  have hS := hHeld
  clear hHeld
  clear hb
  refine wpAnyH_ready (rs := [16]) (by kernel_rfl) (by simp) ?_
  refine' (AllReadyH.cons ?hoc16tx5x9x13x14x15 (fun K hK => ?stc16tx5x9x13x14x15) AllReadyH.nil)
  case hoc16tx5x9x13x14x15 => (simp only [List.getElem?_toArray, List.getElem?_cons_succ, List.getElem?_cons_zero]; rfl)
  clear Sa Sb Sc SM GP
  refine step_store_row rfl 38 (.tmp 2) (.tmp 40) rfl (w.heap.size + 1) C rfl rfl 38 _ G1.out IZ.out SZ.out OC.out ?_
  refine hK.out _ _ (⟨hS.1.trans (below_row _ _ (by omega)), by rw [setRow_other _ _ _ _ (show w.heap.size ≠ (w.heap.size + 1) from (by omega))]; exact hS.2⟩) (fun hHeld => ?_)
  clear hK K
  simp only [Act.put]
  have qG1 := setRow_heap _ (w.heap.size + 1) _ C _ _ G1.out
  clear hS
  have hS := hHeld
  clear hHeld
  clear G1
  generalize Wtx5x9x13x14x15.setRow (w.heap.size + 1) C = Wtx5x9x13x14x15x16 at *
  have G1 := Lib.hid qG1
  clear qG1
  refine' wpAnyH_take (i := 17) ?h1x17tx5x9x13x14x15x16 ?hsx17tx5x9x13x14x15x16 ?hfx17tx5x9x13x14x15x16 ?hrx17tx5x9x13x14x15x16 ?hQx17tx5x9x13x14x15x16 (Or.inl ⟨?hwx17tx5x9x13x14x15x16, ?hyx17tx5x9x13x14x15x16⟩) hS ?restx17tx5x9x13x14x15x16
  case h1x17tx5x9x13x14x15x16 => (simp only [List.getElem?_toArray, List.getElem?_cons_succ, List.getElem?_cons_zero]; rfl)
  case hsx17tx5x9x13x14x15x16 => kernel_rfl
  case hfx17tx5x9x13x14x15x16 => kernel_rfl
  case hrx17tx5x9x13x14x15x16 => kernel_rfl
  case hQx17tx5x9x13x14x15x16 => exact fun _ _ _ h => h
  case hwx17tx5x9x13x14x15x16 => rfl
  case hyx17tx5x9x13x14x15x16 =>
    intro W hW
    go_simp
    try with_reducible rfl
  simp only [Act.put, List.setIfInBounds_toArray, List.set_cons_succ, List.set_cons_zero]
  refine wpAnyH_done (by kernel_rfl) ?_ _
  go_wp2_with fail
  exact bodyPost_ret (v := .tuple #[.agg C, .int .i64 0]) (results_cell_tmp Try.results27 _ _ (w.heap.size + 1) 38 C (0, 0) _ rfl G1.out U38.out rfl IZ.out) rfl (YES.out _ hS.1)
theorem writeTen (z : List Int) (r q c : Int) (hz : Byt z) (hl : z.length = 32) (w : World) : Calls Try.prog 27 #[.agg (ncells z r q c)] w (WrP w (nMay r q c) (nW z r q c)) := by
  by_cases hm : nMay r q c
  · exact writeTen_yes z r q c hz hl hm w
  · exact writeTen_no z r q c hl hm w
end Go.Proofs.Ytbhkhkiidaemcaa
