/-
  Contract of hashlog.Clash, where there is one; texts of slices that came in. Condition: the log lies in memory as a list of texts.
-/
import Derived.Test.YtjdamlmoegippaaDoorPlE
namespace Go.Proofs.YtjdamlmoegippaaDoor.hl
open Go.RowKit
theorem range_clash {W : World} {g mb n : Nat} {cl : Bool} {C : List Int} (h : W.heap[g]? = some (.cells (lcells mb n cl C) 108 (0, 0))) : W.rangeAt g 3 (bcells C).toList := fun j v hv => by
  rw [cell_of_row _ _ _ _ _ _ h, ← hv]
  unfold lcells bcells
  simp only [List.getElem?_toArray]
  rw [show 3 + j = j + 1 + 1 + 1 by omega]
  simp only [List.getElem?_cons_succ]
/-- Two unlike texts of one sum. -/
def ClashP (w : World) (t0 t1 : List Int) (e : Ending) (w' : World) : Prop :=
  ∃ v0 v1, e = .returned (.tuple #[v0, v1, .bool true]) ∧ Sees w' v0 t0 ∧ Sees w' v1 t1 ∧ (∃ x c, v0 = .slice x t0.length c) ∧ (∃ x c, v1 = .slice x t1.length c) ∧ (∀ q, v0.ownBlock = some q → w.heap.size ≤ q) ∧ (∀ q, v1.ownBlock = some q → w.heap.size ≤ q) ∧ Below w.heap.size w w'
set_option maxRecDepth 100000 in
set_option maxHeartbeats 4000000 in
theorem clashY1 (S : Nat → Prop) (g : Nat) (T : List (List Int)) (w : World) (c t0 t1 : List Int) (hl : LG S w g T) (hc : clk sha T = some c) (h0 : (ofSum sha T c)[0]? = some t0) (h1 : (ofSum sha T c)[1]? = some t1) :
    Calls Tryd.prog 32 #[.pointer (some ⟨g, 0, none⟩)] w (ClashP w t0 t1) := by
  obtain ⟨mb, s, f, C, h⟩ := hl
  have hCc := h.clash c hc
  subst hCc
  have c2 := h.c2
  rw [hc] at c2
  have C2 : Hid (w.cell? ⟨g, 2, none⟩ = some (.bool true)) := c2
  have C0 := Lib.hid h.c0
  have HH := Lib.hid h.head
  have HGL := Lib.hid (blk_lt h.head)
  have IK : Hid ((Tryd.prog.info? 24).map (·.size) = some (bcells C).size) := by show _ = _; rw [i27, bsize, h.clen.1]
  have zs : ∀ W : World, (zeroValue 55).run Tryd.prog W = .ok (.slice none 0 0) W := fun W => by kernel_rfl
  obtain ⟨V, xs, hV, ⟨x0, c0, hVf⟩, hrow, _, hxs⟩ := h.row h.clen.2 h.clen.1
  obtain ⟨u0, e0, s0⟩ := hxs 0 t0 h0
  obtain ⟨u1, e1, s1⟩ := hxs 1 t1 h1
  have hn2 : 2 ≤ (ofSum sha T C).length := by have := (List.getElem?_eq_some_iff.1 h1).1; omega
  have LK : Hid (∀ W : World, Below w.heap.size w W → (Instr.lookup 106 (.map (some mb)) (.agg (bcells C)) false).run Tryd.prog W = .ok V W) := fun W hW => by
    rw [hV]
    exact (h.map.same (hW.block _ h.map.lt)).look keyed31 Tryd.underlying106 (zs W) (kl_is C h.clen.2 h.clen.1)
  obtain ⟨hl', ⟨rfl, e2⟩ | ⟨gb, cap, cur, rfl, _, hg, hn, hm, hsz, ht⟩⟩ := hrow
  · omega
  have CB : ∀ j u, xs[j]? = some u → j < (ofSum sha T C).length → w.cell? ⟨gb, j, none⟩ = some u := fun j u e hj => by
    rw [cell_of_row _ _ _ _ _ _ hg]
    rw [← ht, List.getElem?_take_of_lt (by omega)] at e
    simpa using e
  have CW0 := Lib.hid (CB 0 u0 e0 (by omega))
  have CW1 := Lib.hid (CB 1 u1 e1 (by omega))
  have LBw := Lib.hid (blk_lt hg)
  obtain ⟨n, hnn⟩ : ∃ n, n = (ofSum sha T C).length := ⟨_, rfl⟩
  rw [← hnn] at LK hn2
  have hT0 := (h.byt t0 ((mem_ofSum sha).1 (List.mem_of_getElem? h0)).1)
  have hT1 := (h.byt t1 ((mem_ofSum sha).1 (List.mem_of_getElem? h1)).1)
  have SU0L : Hid (t0.length ≤ 140737488355328) := by show _ ≤ _; omega
  have SU1L : Hid (t1.length ≤ 140737488355328) := by show _ ≤ _; omega
  have S0w := Lib.hid s0.1
  have S1w := Lib.hid s1.1
  have n1 : (1 : Int) < (n : Int) := by omega
  have n0 : (0 : Int) < (n : Int) := by omega
  have n1' : 1 < n := by omega
  have n0' : 0 < n := by omega
  clear h hc c2 hV hVf hxs e0 s0 e1 s1 hl' hg hn hm hsz ht CB hnn hT0 hT1 h0 h1 hn2
  have c2 := C2.out
  go_enter Tryd.func32, Tryd.ntmps32
  go_wp2_with fail
  refine wp_region_held_drew (S := fun W => Below w.heap.size w W) (by kernel_rfl) (Below.refl _ _).drew (fun hS => ?_)
  refine' wpAnyH_take (i := 0) ?h1x0c ?hsx0c ?hfx0c ?hrx0c ?hQx0c (Or.inl ⟨?hwx0c, ?hyx0c⟩) hS ?restx0c
  case h1x0c => (simp only [List.getElem?_toArray, List.getElem?_cons_zero]; rfl)
  case hsx0c | hfx0c | hrx0c => kernel_rfl
  case hQx0c => exact fun _ _ _ h => h
  case hwx0c => rfl
  case hyx0c =>
    intro W hW
    go_simp
    try with_reducible rfl
  simp only [Act.put, List.setIfInBounds_toArray, List.set_cons_succ, List.set_cons_zero]
  refine' wpAnyH_take (i := 1) ?h1x1c ?hsx1c ?hfx1c ?hrx1c ?hQx1c (Or.inl ⟨?hwx1c, ?hyx1c⟩) hS ?restx1c
  case h1x1c => (simp only [List.getElem?_toArray, List.getElem?_cons_succ, List.getElem?_cons_zero]; rfl)
  case hsx1c | hfx1c | hrx1c => kernel_rfl
  case hQx1c => exact fun _ _ _ h => h
  case hwx1c => rfl
  case hyx1c =>
    intro W hW
    go_simp
    try with_reducible rfl
  simp only [Act.put, List.setIfInBounds_toArray, List.set_cons_succ, List.set_cons_zero]
  refine' wpAnyH_take (i := 2) ?h1x2c ?hsx2c ?hfx2c ?hrx2c ?hQx2c (Or.inl ⟨?hwx2c, ?hyx2c⟩) hS ?restx2c
  case h1x2c => (simp only [List.getElem?_toArray, List.getElem?_cons_succ, List.getElem?_cons_zero]; rfl)
  case hsx2c | hfx2c | hrx2c => kernel_rfl
  case hQx2c => exact fun _ _ _ h => h
  case hwx2c => rfl
  case hyx2c =>
    intro W hW
    go_simp
    try with_reducible rfl
  simp only [Act.put, List.setIfInBounds_toArray, List.set_cons_succ, List.set_cons_zero]
  refine' wpAnyH_take (i := 3) ?h1x3c ?hsx3c ?hfx3c ?hrx3c ?hQx3c (Or.inl ⟨?hwx3c, ?hyx3c⟩) hS ?restx3c
  case h1x3c => (simp only [List.getElem?_toArray, List.getElem?_cons_succ, List.getElem?_cons_zero]; rfl)
  case hsx3c | hfx3c | hrx3c => kernel_rfl
  case hQx3c => exact fun _ _ _ h => h
  case hwx3c => rfl
  case hyx3c =>
    intro W hW
    have c0 := (hW.cell (p := ⟨g, 0, none⟩) HGL.out).trans C0.out
    go_simp
    try with_reducible rfl
  simp only [Act.put, List.setIfInBounds_toArray, List.set_cons_succ, List.set_cons_zero]
  refine' wpAnyH_take (i := 4) ?h1x4c ?hsx4c ?hfx4c ?hrx4c ?hQx4c (Or.inl ⟨?hwx4c, ?hyx4c⟩) hS ?restx4c
  case h1x4c => (simp only [List.getElem?_toArray, List.getElem?_cons_succ, List.getElem?_cons_zero]; rfl)
  case hsx4c | hfx4c | hrx4c => kernel_rfl
  case hQx4c => exact fun _ _ _ h => h
  case hwx4c => rfl
  case hyx4c =>
    intro W hW
    go_simp
    try with_reducible rfl
  simp only [Act.put, List.setIfInBounds_toArray, List.set_cons_succ, List.set_cons_zero]
  refine' wpAnyH_take (i := 5) ?h1x5c ?hsx5c ?hfx5c ?hrx5c ?hQx5c (Or.inl ⟨?hwx5c, ?hyx5c⟩) hS ?restx5c
  case h1x5c => (simp only [List.getElem?_toArray, List.getElem?_cons_succ, List.getElem?_cons_zero]; rfl)
  case hsx5c | hfx5c | hrx5c => kernel_rfl
  case hQx5c => exact fun _ _ _ h => h
  case hwx5c => rfl
  case hyx5c =>
    intro W hW
    go_simp
    try with_reducible rfl
  simp only [Act.put, List.setIfInBounds_toArray, List.set_cons_succ, List.set_cons_zero]
  refine' wpAnyH_take (i := 6) ?h1x6c ?hsx6c ?hfx6c ?hrx6c ?hQx6c (Or.inl ⟨?hwx6c, ?hyx6c⟩) hS ?restx6c
  case h1x6c => (simp only [List.getElem?_toArray, List.getElem?_cons_succ, List.getElem?_cons_zero]; rfl)
  case hsx6c | hfx6c | hrx6c => kernel_rfl
  case hQx6c => exact fun _ _ _ h => h
  case hwx6c => rfl
  case hyx6c =>
    intro W hW
    go_simp
    try with_reducible rfl
  simp only [Act.put, List.setIfInBounds_toArray, List.set_cons_succ, List.set_cons_zero]
  refine' wpAnyH_take (i := 7) ?h1x7c ?hsx7c ?hfx7c ?hrx7c ?hQx7c (yieldsIf_load_at ?hwx7c 24 (.tmp 21) ?hopx7c g 3 rfl (bcells C) _ (fun W hW => range_clash ((hW.block _ HGL.out).trans HH.out)) Tryd.underlying24 rfl ?hix7c) hS ?restx7c
  case h1x7c => (simp only [List.getElem?_toArray, List.getElem?_cons_succ, List.getElem?_cons_zero]; rfl)
  case hopx7c => rfl
  case hsx7c | hfx7c | hrx7c => kernel_rfl
  case hQx7c => exact fun _ _ _ h => h
  case hwx7c => rfl
  case hix7c => exact IK.out
  simp only [Act.put, List.setIfInBounds_toArray, List.set_cons_succ, List.set_cons_zero]
  refine' wpAnyH_take (i := 8) ?h1x8c ?hsx8c ?hfx8c ?hrx8c ?hQx8c (Or.inl ⟨?hwx8c, ?hyx8c⟩) hS ?restx8c
  case h1x8c => (simp only [List.getElem?_toArray, List.getElem?_cons_succ, List.getElem?_cons_zero]; rfl)
  case hsx8c | hfx8c | hrx8c => kernel_rfl
  case hQx8c => exact fun _ _ _ h => h
  case hwx8c => rfl
  case hyx8c =>
    intro W hW
    have lk := LK.out W hW
    go_simp
    try with_reducible rfl
  simp only [Act.put, List.setIfInBounds_toArray, List.set_cons_succ, List.set_cons_zero]
  refine' wpAnyH_take (i := 9) ?h1x9c ?hsx9c ?hfx9c ?hrx9c ?hQx9c (Or.inl ⟨?hwx9c, ?hyx9c⟩) hS ?restx9c
  case h1x9c => (simp only [List.getElem?_toArray, List.getElem?_cons_succ, List.getElem?_cons_zero]; rfl)
  case hsx9c | hfx9c | hrx9c => kernel_rfl
  case hQx9c => exact fun _ _ _ h => h
  case hwx9c => rfl
  case hyx9c =>
    intro W hW
    go_simp
    try with_reducible rfl
  simp only [Act.put, List.setIfInBounds_toArray, List.set_cons_succ, List.set_cons_zero]
  refine wpAnyH_done (by kernel_rfl) ?_ _
  obtain ⟨W2, hW2⟩ : ∃ W2, W2 = w.drew := ⟨_, rfl⟩
  have B2 : Hid (Below w.heap.size w W2) := by rw [hW2]; exact (Below.refl _ _).drew
  rw [← hW2]
  have LB0 : Hid (gb < W2.heap.size) := by rw [hW2]; exact LBw.out
  have CU0 : Hid (W2.cell? ⟨gb, 0, none⟩ = some u0) := (B2.out.cell (p := ⟨gb, 0, none⟩) LBw.out).trans CW0.out
  have CU1 : Hid (W2.cell? ⟨gb, 1, none⟩ = some u1) := (B2.out.cell (p := ⟨gb, 1, none⟩) LBw.out).trans CW1.out
  have SU0 := Lib.hid (S0w.out.below B2.out)
  have SU1 := Lib.hid (S1w.out.below B2.out)
  clear hS hW2 c2
  go_wp2_with fail
  refine wp_region_held_drew (S := fun W => Below W2.heap.size W2 W) (by kernel_rfl) (Below.refl _ _).drew (fun hS => ?_)
  refine' wpAnyH_take (i := 0) ?h1x0d ?hsx0d ?hfx0d ?hrx0d ?hQx0d (Or.inl ⟨?hwx0d, ?hyx0d⟩) hS ?restx0d
  case h1x0d => (simp only [List.getElem?_toArray, List.getElem?_cons_zero]; rfl)
  case hsx0d | hfx0d | hrx0d => kernel_rfl
  case hQx0d => exact fun _ _ _ h => h
  case hwx0d => rfl
  case hyx0d =>
    intro W hW
    go_simp
    try with_reducible rfl
  simp only [Act.put, List.setIfInBounds_toArray, List.set_cons_succ, List.set_cons_zero]
  refine' wpAnyH_take (i := 1) ?h1x1d ?hsx1d ?hfx1d ?hrx1d ?hQx1d (Or.inl ⟨?hwx1d, ?hyx1d⟩) hS ?restx1d
  case h1x1d => (simp only [List.getElem?_toArray, List.getElem?_cons_succ, List.getElem?_cons_zero]; rfl)
  case hsx1d | hfx1d | hrx1d => kernel_rfl
  case hQx1d => exact fun _ _ _ h => h
  case hwx1d => rfl
  case hyx1d =>
    intro W hW
    go_simp
    try with_reducible rfl
  simp only [Act.put, List.setIfInBounds_toArray, List.set_cons_succ, List.set_cons_zero]
  refine' wpAnyH_take (i := 2) ?h1x2d ?hsx2d ?hfx2d ?hrx2d ?hQx2d (Or.inl ⟨?hwx2d, ?hyx2d⟩) hS ?restx2d
  case h1x2d => (simp only [List.getElem?_toArray, List.getElem?_cons_succ, List.getElem?_cons_zero]; rfl)
  case hsx2d | hfx2d | hrx2d => kernel_rfl
  case hQx2d => exact fun _ _ _ h => h
  case hwx2d => rfl
  case hyx2d =>
    intro W hW
    have c0 := (hW.cell (p := ⟨gb, 0, none⟩) LB0.out).trans CU0.out
    go_simp
    try with_reducible rfl
  simp only [Act.put, List.setIfInBounds_toArray, List.set_cons_succ, List.set_cons_zero]
  refine' wpAnyH_take (i := 4) ?h1x4d ?hsx4d ?hfx4d ?hrx4d ?hQx4d (Or.inl ⟨?hwx4d, ?hyx4d⟩) hS ?restx4d
  case h1x4d => (simp only [List.getElem?_toArray, List.getElem?_cons_succ, List.getElem?_cons_zero]; rfl)
  case hsx4d | hfx4d | hrx4d => kernel_rfl
  case hQx4d => exact fun _ _ _ h => h
  case hwx4d => rfl
  case hyx4d =>
    intro W hW
    go_simp
    try with_reducible rfl
  simp only [Act.put, List.setIfInBounds_toArray, List.set_cons_succ, List.set_cons_zero]
  refine' wpAnyH_take (i := 5) ?h1x5d ?hsx5d ?hfx5d ?hrx5d ?hQx5d (Or.inl ⟨?hwx5d, ?hyx5d⟩) hS ?restx5d
  case h1x5d => (simp only [List.getElem?_toArray, List.getElem?_cons_succ, List.getElem?_cons_zero]; rfl)
  case hsx5d | hfx5d | hrx5d => kernel_rfl
  case hQx5d => exact fun _ _ _ h => h
  case hwx5d => rfl
  case hyx5d =>
    intro W hW
    go_simp
    try with_reducible rfl
  simp only [Act.put, List.setIfInBounds_toArray, List.set_cons_succ, List.set_cons_zero]
  refine' wpAnyH_take (i := 6) ?h1x6d ?hsx6d ?hfx6d ?hrx6d ?hQx6d (Or.inl ⟨?hwx6d, ?hyx6d⟩) hS ?restx6d
  case h1x6d => (simp only [List.getElem?_toArray, List.getElem?_cons_succ, List.getElem?_cons_zero]; rfl)
  case hsx6d | hfx6d | hrx6d => kernel_rfl
  case hQx6d => exact fun _ _ _ h => h
  case hwx6d => rfl
  case hyx6d =>
    intro W hW
    have c1 := (hW.cell (p := ⟨gb, 1, none⟩) LB0.out).trans CU1.out
    go_simp
    try with_reducible rfl
  simp only [Act.put, List.setIfInBounds_toArray, List.set_cons_succ, List.set_cons_zero]
  refine wpAnyH_ready (rs := [3]) (by kernel_rfl) (by simp) ?_
  refine' AllReadyH.cons ?hoc3d (fun K hK => ?stc3d) AllReadyH.nil
  case hoc3d => (simp only [List.getElem?_toArray, List.getElem?_cons_succ, List.getElem?_cons_zero]; rfl)
  go_simp
  refine (cloneB u0 t0 SU0L.out _ (SU0.out.below hS)).mono ?_
  rintro e wA ⟨v3, rfl, ⟨x3, c3, rfl⟩, ho3, hb⟩
  have hz3 := hS.size
  go_wp2_with fail
  refine hK.out _ _ (hS.trans (hb.mono hS.size)) (fun hHeld => ?_)
  clear hK K
  try simp only [Act.put, List.setIfInBounds_toArray, List.set_cons_succ, List.set_cons_zero]
  clear hS
  have hS := hHeld
  clear hHeld
  have hb3 := hb
  clear hb
  refine wpAnyH_ready (rs := [7]) (by kernel_rfl) (by simp) ?_
  refine' AllReadyH.cons ?hoc7d (fun K hK => ?stc7d) AllReadyH.nil
  case hoc7d => (simp only [List.getElem?_toArray, List.getElem?_cons_succ, List.getElem?_cons_zero]; rfl)
  go_simp
  refine (cloneB u1 t1 SU1L.out _ (SU1.out.below hS)).mono ?_
  rintro e wB ⟨v7, rfl, ⟨x7, c7, rfl⟩, ho7, hb⟩
  have hz7 := hS.size
  go_wp2_with fail
  refine hK.out _ _ (hS.trans (hb.mono hS.size)) (fun hHeld => ?_)
  clear hK K
  try simp only [Act.put, List.setIfInBounds_toArray, List.set_cons_succ, List.set_cons_zero]
  clear hS
  have hS := hHeld
  clear hHeld
  have hb7 := hb
  clear hb
  refine' wpAnyH_take (i := 8) ?h1x8d ?hsx8d ?hfx8d ?hrx8d ?hQx8d (Or.inl ⟨?hwx8d, ?hyx8d⟩) hS ?restx8d
  case h1x8d => (simp only [List.getElem?_toArray, List.getElem?_cons_succ, List.getElem?_cons_zero]; rfl)
  case hsx8d | hfx8d | hrx8d => kernel_rfl
  case hQx8d => exact fun _ _ _ h => h
  case hwx8d => rfl
  case hyx8d =>
    intro W hW
    go_simp
    try with_reducible rfl
  simp only [Act.put, List.setIfInBounds_toArray, List.set_cons_succ, List.set_cons_zero]
  refine' wpAnyH_take (i := 9) ?h1x9d ?hsx9d ?hfx9d ?hrx9d ?hQx9d (Or.inl ⟨?hwx9d, ?hyx9d⟩) hS ?restx9d
  case h1x9d => (simp only [List.getElem?_toArray, List.getElem?_cons_succ, List.getElem?_cons_zero]; rfl)
  case hsx9d | hfx9d | hrx9d => kernel_rfl
  case hQx9d => exact fun _ _ _ h => h
  case hwx9d => rfl
  case hyx9d =>
    intro W hW
    go_simp
    try with_reducible rfl
  simp only [Act.put, List.setIfInBounds_toArray, List.set_cons_succ, List.set_cons_zero]
  refine' wpAnyH_take (i := 10) ?h1x10d ?hsx10d ?hfx10d ?hrx10d ?hQx10d (Or.inl ⟨?hwx10d, ?hyx10d⟩) hS ?restx10d
  case h1x10d => (simp only [List.getElem?_toArray, List.getElem?_cons_succ, List.getElem?_cons_zero]; rfl)
  case hsx10d | hfx10d | hrx10d => kernel_rfl
  case hQx10d => exact fun _ _ _ h => h
  case hwx10d => rfl
  case hyx10d =>
    intro W hW
    go_simp
    try with_reducible rfl
  simp only [Act.put, List.setIfInBounds_toArray, List.set_cons_succ, List.set_cons_zero]
  refine wpAnyH_done (by kernel_rfl) ?_ _
  have FIN : Hid (ClashP w t0 t1 (.returned (.tuple #[.slice x3 t0.length c3, .slice x7 t1.length c7, .bool true])) wB) := by
    refine ⟨_, _, rfl, ho3.sees.below hb7, ho7.sees, ⟨_, _, rfl⟩, ⟨_, _, rfl⟩, fun q e => ?_, fun q e => ?_, B2.out.trans (hS.mono B2.out.size)⟩
    · have := B2.out.size
      rcases ho3.2.2 with ⟨e2, _⟩ | ⟨gq, _, _, e2, hq, _⟩
      · rw [e2] at e
        simp [Value.ownBlock] at e
      · rw [e2] at e
        simp only [Value.ownBlock, Option.some.injEq] at e
        have hz : w.heap.size ≤ W2.heap.size := B2.out.size
        omega
    · have := B2.out.size
      rcases ho7.2.2 with ⟨e2, _⟩ | ⟨gq, _, _, e2, hq, _⟩
      · rw [e2] at e
        simp [Value.ownBlock] at e
      · rw [e2] at e
        simp only [Value.ownBlock, Option.some.injEq] at e
        omega
  clear ho3 ho7 hb3 hb7 hS
  go_wp2_with fail
  go_ret3
  exact FIN.out
end Go.Proofs.YtjdamlmoegippaaDoor.hl
