/-
  Contracts of the functions that the statements of package entry go through: roots are read of a value. Condition: the value is 44 bytes.
-/
import Derived.Test.YtbhkhkiidaemcaaEL
namespace Go.Proofs.Ytbhkhkiidaemcaa
open Go.RowKit
def oN (v : List Int) : Int := numI (pt v 0 1)
def oH (v : List Int) : Bool := oN v == 1
def oS (v : List Int) : Int := numI (pt v 1 4)
def oZ (v : List Int) : List Int := pt v 5 32
set_option maxRecDepth 100000 in
set_option maxHeartbeats 8000000 in
theorem readRoot (v : List Int) (hv : Byt v) (hl : v.length = 44) (w : World) : Calls Try.prog 28 #[.agg (bcells v)] w (ChP w (oMay (oH v) (oS v) (oZ v)) (oW (oH v) (oS v) (oZ v)) v (.agg (ocells (oH v) (oS v) (oZ v))) (.agg (ocells false 0 (zs 32)))) := by
  have sb := num32 (pt_byt hv 1 4) (pt_len v 1 4 (by omega))
  have nb := num8 (pt_byt hv 0 1) (pt_len v 0 1 (by omega))
  have zl : (oZ v).length = 32 := pt_len v 5 32 (by omega)
  have zb : Byt (oZ v) := pt_byt hv 5 32
  have hz := z55
  obtain ⟨Zx, hZx⟩ : ∃ Zx, Zx = ocells false 0 (zs 32) := ⟨_, rfl⟩
  obtain ⟨W0, hW0⟩ : ∃ W0, W0 = (w.alloc (.cells (bcells v) 38)).alloc (.cells Zx 55) := ⟨_, rfl⟩
  have BE : Hid (Below w.heap.size w W0) := by rw [hW0]; exact ((Below.refl _ _).alloc (Nat.le_refl _) _).alloc (by simp) _
  have GA : Hid (W0.heap[w.heap.size]? = some (.cells (bcells v) 38 (0, 0))) := by
    show _ = _
    rw [hW0, Below.heap_alloc _ _ _ (by simp)]; exact heap_alloc_new w _
  have GR : Hid (W0.heap[w.heap.size + 1]? = some (.cells Zx 55 (0, 0))) := by
    show _ = _
    rw [hW0]; exact heap_alloc2_new w _ _
  have SV := Lib.hid (sees_rowT W0 w.heap.size 38 v hv (by rw [hl]; decide) GA.out 44 hl.symm)
  have C0 : Hid (∀ W, Sees W (.slice (some ⟨w.heap.size, 0, none⟩) 44 44) v → Calls Try.prog 36 #[.slice (some ⟨w.heap.size, 0, none⟩) 44 44] W (rx.ReadP W v)) := fun W hW => rx.readn _ v (by omega) W hW
  have sp1 : v = pt v 0 1 ++ v.drop 1 := pt_next v 0 1
  have sp2 : v.drop 1 = pt v 1 4 ++ (pt v 5 32 ++ v.drop 37) := by rw [pt_next v 1 4, pt_next v 5 32]
  have C1 : Hid (∀ W g, rx.RD W g v false → Calls Try.prog 49 #[.pointer (some ⟨g, 0, none⟩)] W fun e w' => e = .returned (.int .u8 (oN v)) ∧ rx.RD w' g (v.drop 1) false ∧ W.grownBy w' (some g)) := fun W g hW => rx.rd8 g (pt v 0 1) (v.drop 1) (pt_len v 0 1 (by omega)) W (by rw [← sp1]; exact hW)
  have C2 : Hid (∀ W g, rx.RD W g (v.drop 1) false → Calls Try.prog 42 #[.pointer (some ⟨g, 0, none⟩)] W fun e w' => e = .returned (.agg (rcells (oS v) (oZ v)).toArray) ∧ rx.RD w' g (v.drop 37) false ∧ W.grownBy w' (some g)) := fun W g hW => nextRef g (pt v 1 4) (pt v 5 32) (v.drop 37) (pt_len v 1 4 (by omega)) zl (by rw [List.length_append, pt_len v 5 32 (by omega), List.length_drop]; omega) W (by rw [← sp2]; exact hW)
  have C3 : Hid (∀ W, Calls Try.prog 48 #[.agg (ocells (oH v) (oS v) (oZ v)), .agg (bcells v), .func (.func 26) #[] #[]] W (ChP W (oMay (oH v) (oS v) (oZ v)) (oW (oH v) (oS v) (oZ v)) v (.agg (ocells (oH v) (oS v) (oZ v))) (.agg Zx))) := fun W => by
    rw [hZx]
    exact chkRoot _ (ocells false 0 (zs 32)) (i55 zl) (i55 (zs_len _)) (one_o _ _ _) (one_o _ _ _) z55 (oMay (oH v) (oS v) (oZ v)) (oW (oH v) (oS v) (oZ v)) v (oW_byt zb) hv (oW_len zl) hl (fun W => writeRoot _ _ _ sb.1 sb.2 zb zl W) W
  have n0 : 0 ≤ oN v := nb.1
  have n1 : oN v ≤ 255 := nb.2
  have BC := Lib.hid (bld55c (oH v) (oS v) (oZ v) zl)
  have IX : Hid ((Try.prog.info? 55).map (·.size) = some (ocells (oH v) (oS v) (oZ v)).size) := i55 zl
  have IZ : Hid ((Try.prog.info? 55).map (·.size) = some Zx.size) := by rw [hZx]; exact i55 (zs_len _)
  have SX : Hid (Zx.size = (ocells (oH v) (oS v) (oZ v)).size) := by
    show _ = _
    rw [hZx]; simp [ocells, rcells, zl, zs_len]
  have OX := Lib.hid (one_o (oH v) (oS v) (oZ v))
  have OZ : Hid (Zx.all (·.oneCell') = true) := by rw [hZx]; exact one_o _ _ _
  have IV := Lib.hid (i38 hl)
  have HW0 := Lib.hid hW0
  rw [← hZx] at hz ⊢
  have NO := Lib.hid (fun (h : ¬ (oMay (oH v) (oS v) (oZ v) ∧ oW (oH v) (oS v) (oZ v) = v)) W' (hb : Below w.heap.size w W') => chP_no (X := .agg (ocells (oH v) (oS v) (oZ v))) (Z := .agg Zx) h hb)
  have YES := Lib.hid (fun (h : oMay (oH v) (oS v) (oZ v) ∧ oW (oH v) (oS v) (oZ v) = v) W' (hb : Below w.heap.size w W') => chP_yes (X := .agg (ocells (oH v) (oS v) (oZ v))) (Z := .agg Zx) h hb)
  have HC : Hid ((oN v == 1) = oH v) := rfl
  clear hW0 nb sb zl zb sp1 sp2 hv hl hZx
  generalize oH v = o at *
  generalize oN v = n at *
  generalize oS v = s at *
  generalize oZ v = z at *
  generalize ocells o s z = X at *
  generalize (rcells s z).toArray = RC at *
  by_cases h : oMay o s z ∧ oW o s z = v
  · have C4 : Hid (∀ W, Calls Try.prog 48 #[.agg X, .agg (bcells v), .func (.func 26) #[] #[]] W fun e w' => e = .returned (.tuple #[.agg X, .int .i64 0]) ∧ Below W.heap.size W w') := fun W => by
      have := C3.out W; unfold ChP at this; rw [if_pos h, if_pos h] at this; exact this
    have Y := Lib.hid (YES.out h)
    clear NO YES C3 h
    go_enter Try.func28, Try.ntmps28
    go_upto_region 1 with (fail)
    rw [← HW0.out]
    go_wp2_with fail
    refine (C0.out _ SV.out).mono ?_
    rintro e w1 ⟨g, rfl, hr, hb, hg⟩
    have hgw : w.heap.size + 1 < g := Nat.lt_of_lt_of_le (blk_lt GR.out) hg
    have R1 := Lib.hid hr
    have B1 := Lib.hid (BE.out.trans (hb.mono BE.out.size))
    have GA1 := Lib.hid ((hb.block _ (blk_lt GA.out)).trans GA.out)
    have GR1 := Lib.hid ((hb.block _ (blk_lt GR.out)).trans GR.out)
    clear hr hb hg SV GA GR BE
    have R := Lib.hid R1.out
    have B := Lib.hid B1.out
    have GA := Lib.hid GA1.out
    have GR := Lib.hid GR1.out
    clear R1 B1 GA1 GR1
    go_upto_region 2 with (fail)
    refine wp_region_held_drew (S := fun W => W.heap[w.heap.size]? = some (.cells (bcells v) 38 (0, 0))) (by kernel_rfl) (GA.out) (fun hS => ?_)
    have hd : Below w1.heap.size w1 w1.drew := (Below.refl _ _).drew
    have R := Lib.hid (R.out.below hd)
    have GR := Lib.hid ((hd.block _ (blk_lt GR.out)).trans GR.out)
    have B := Lib.hid (B.out.trans (hd.mono B.out.size))
    clear hd GA
    generalize w1.drew = Was at *
    refine' wpAnyH_take (i := 0) ?h1x0a ?hsx0a ?hfx0a ?hrx0a ?hQx0a (Or.inl ⟨?hwx0a, ?hyx0a⟩) hS ?restx0a
    case h1x0a => (simp only [List.getElem?_toArray, List.getElem?_cons_zero]; rfl)
    case hsx0a => kernel_rfl
    case hfx0a => kernel_rfl
    case hrx0a => kernel_rfl
    case hQx0a => exact fun _ _ _ h => h
    case hwx0a => rfl
    case hyx0a =>
      intro W hW
      go_simp
      try with_reducible rfl
    simp only [Act.put, List.setIfInBounds_toArray, List.set_cons_succ, List.set_cons_zero]
    refine' wpAnyH_take (i := 3) ?h1x3a ?hsx3a ?hfx3a ?hrx3a ?hQx3a (Or.inl ⟨?hwx3a, ?hyx3a⟩) hS ?restx3a
    case h1x3a => (simp only [List.getElem?_toArray, List.getElem?_cons_succ, List.getElem?_cons_zero]; rfl)
    case hsx3a => kernel_rfl
    case hfx3a => kernel_rfl
    case hrx3a => kernel_rfl
    case hQx3a => exact fun _ _ _ h => h
    case hwx3a => rfl
    case hyx3a =>
      intro W hW
      go_simp
      try with_reducible rfl
    simp only [Act.put, List.setIfInBounds_toArray, List.set_cons_succ, List.set_cons_zero]
    refine' wpAnyH_take (i := 6) ?h1x6a ?hsx6a ?hfx6a ?hrx6a ?hQx6a (yieldsIf_load_at ?hwx6a 38 (.tmp 1) ?hopx6a w.heap.size 0 rfl (bcells v) _ (fun W hW => range_row hW) Try.underlying38 rfl ?hix6a) hS ?restx6a
    case h1x6a => (simp only [List.getElem?_toArray, List.getElem?_cons_succ, List.getElem?_cons_zero]; rfl)
    case hopx6a => rfl
    case hsx6a => kernel_rfl
    case hfx6a => kernel_rfl
    case hrx6a => kernel_rfl
    case hQx6a => exact fun _ _ _ h => h
    case hwx6a => rfl
    case hix6a => exact IV.out
    simp only [Act.put, List.setIfInBounds_toArray, List.set_cons_succ, List.set_cons_zero]
    refine wpAnyH_ready (rs := [1]) (by kernel_rfl) (by simp) ?_
    refine' AllReadyH.cons ?hoc1a (fun K hK => ?stc1a) AllReadyH.nil
    case hoc1a => (simp only [List.getElem?_toArray, List.getElem?_cons_succ, List.getElem?_cons_zero]; rfl)
    go_simp
    refine (C1.out Was g R.out).mono ?_
    rintro e Wax1 ⟨rfl, hr, hgr⟩
    have R' := Lib.hid hr
    have B' := Lib.hid (below_grown B.out hgr (fun k e => by cases e; omega))
    have GR' := Lib.hid (row_kept hgr GR.out (by omega))
    have hS' := row_kept hgr hS (by omega)
    clear hr hgr R B GR
    have R := Lib.hid R'.out
    have B := Lib.hid B'.out
    have GR := Lib.hid GR'.out
    clear R' B' GR'
    go_wp2_with fail
    refine hK.out _ _ hS' (fun hHeld => ?_)
    clear hK K hS'
    try simp only [Act.put, List.setIfInBounds_toArray, List.set_cons_succ, List.set_cons_zero]
    clear hS
    have hS := hHeld
    clear hHeld
    refine' wpAnyH_take (i := 2) ?h1x2ax1 ?hsx2ax1 ?hfx2ax1 ?hrx2ax1 ?hQx2ax1 (Or.inl ⟨?hwx2ax1, ?hyx2ax1⟩) hS ?restx2ax1
    case h1x2ax1 => (simp only [List.getElem?_toArray, List.getElem?_cons_succ, List.getElem?_cons_zero]; rfl)
    case hsx2ax1 => kernel_rfl
    case hfx2ax1 => kernel_rfl
    case hrx2ax1 => kernel_rfl
    case hQx2ax1 => exact fun _ _ _ h => h
    case hwx2ax1 => rfl
    case hyx2ax1 =>
      intro W hW
      have dd := HC.out
      go_simp
      try with_reducible rfl
    simp only [Act.put, List.setIfInBounds_toArray, List.set_cons_succ, List.set_cons_zero]
    refine wpAnyH_ready (rs := [4]) (by kernel_rfl) (by simp) ?_
    refine' AllReadyH.cons ?hoc4ax1 (fun K hK => ?stc4ax1) AllReadyH.nil
    case hoc4ax1 => (simp only [List.getElem?_toArray, List.getElem?_cons_succ, List.getElem?_cons_zero]; rfl)
    go_simp
    refine (C2.out Wax1 g R.out).mono ?_
    rintro e Wax1x4 ⟨rfl, hr, hgr⟩
    have R' := Lib.hid hr
    have B' := Lib.hid (below_grown B.out hgr (fun k e => by cases e; omega))
    have GR' := Lib.hid (row_kept hgr GR.out (by omega))
    have hS' := row_kept hgr hS (by omega)
    clear hr hgr R B GR
    have R := Lib.hid R'.out
    have B := Lib.hid B'.out
    have GR := Lib.hid GR'.out
    clear R' B' GR'
    go_wp2_with fail
    refine hK.out _ _ hS' (fun hHeld => ?_)
    clear hK K hS'
    try simp only [Act.put, List.setIfInBounds_toArray, List.set_cons_succ, List.set_cons_zero]
    clear hS
    have hS := hHeld
    clear hHeld
    refine' wpAnyH_take (i := 5) ?h1x5ax1x4 ?hsx5ax1x4 ?hfx5ax1x4 ?hrx5ax1x4 ?hQx5ax1x4 (yieldsIf_build ?hwx5ax1x4 55 #[(0, .tmp 9), (1, .tmp 11)] ?hopx5ax1x4 #[(0, .bool o), (1, .agg RC)] ?hvx5ax1x4 BC.out) hS ?restx5ax1x4
    case h1x5ax1x4 => (simp only [List.getElem?_toArray, List.getElem?_cons_succ, List.getElem?_cons_zero]; rfl)
    case hopx5ax1x4 => rfl
    case hvx5ax1x4 => kernel_rfl
    case hsx5ax1x4 => kernel_rfl
    case hfx5ax1x4 => kernel_rfl
    case hrx5ax1x4 => kernel_rfl
    case hQx5ax1x4 => exact fun _ _ _ h => h
    case hwx5ax1x4 => rfl
    simp only [Act.put, List.setIfInBounds_toArray, List.set_cons_succ, List.set_cons_zero]
    refine wpAnyH_ready (rs := [7]) (by kernel_rfl) (by simp) ?_
    refine' AllReadyH.cons ?hoc7ax1x4 (fun K hK => ?stc7ax1x4) AllReadyH.nil
    case hoc7ax1x4 => (simp only [List.getElem?_toArray, List.getElem?_cons_succ, List.getElem?_cons_zero]; rfl)
    go_simp
    refine (C4.out Wax1x4).mono ?_
    rintro e Wax1x4x7 ⟨rfl, hb⟩
    have B' := Lib.hid (B.out.trans (hb.mono B.out.size))
    have GR' := Lib.hid ((hb.block _ (blk_lt GR.out)).trans GR.out)
    have hS' := (hb.block _ (blk_lt hS)).trans hS
    clear R B GR hb
    have B := Lib.hid B'.out
    have GR := Lib.hid GR'.out
    clear B' GR'
    go_wp2_with fail
    refine hK.out _ _ hS' (fun hHeld => ?_)
    clear hK K hS'
    try simp only [Act.put, List.setIfInBounds_toArray, List.set_cons_succ, List.set_cons_zero]
    clear hS
    have hS := hHeld
    clear hHeld
    refine' wpAnyH_take (i := 8) ?h1x8ax1x4x7 ?hsx8ax1x4x7 ?hfx8ax1x4x7 ?hrx8ax1x4x7 ?hQx8ax1x4x7 (Or.inl ⟨?hwx8ax1x4x7, ?hyx8ax1x4x7⟩) hS ?restx8ax1x4x7
    case h1x8ax1x4x7 => (simp only [List.getElem?_toArray, List.getElem?_cons_succ, List.getElem?_cons_zero]; rfl)
    case hsx8ax1x4x7 => kernel_rfl
    case hfx8ax1x4x7 => kernel_rfl
    case hrx8ax1x4x7 => kernel_rfl
    case hQx8ax1x4x7 => exact fun _ _ _ h => h
    case hwx8ax1x4x7 => rfl
    case hyx8ax1x4x7 =>
      intro W hW
      go_simp
      try with_reducible rfl
    simp only [Act.put, List.setIfInBounds_toArray, List.set_cons_succ, List.set_cons_zero]
    refine' wpAnyH_take (i := 9) ?h1x9ax1x4x7 ?hsx9ax1x4x7 ?hfx9ax1x4x7 ?hrx9ax1x4x7 ?hQx9ax1x4x7 (Or.inl ⟨?hwx9ax1x4x7, ?hyx9ax1x4x7⟩) hS ?restx9ax1x4x7
    case h1x9ax1x4x7 => (simp only [List.getElem?_toArray, List.getElem?_cons_succ, List.getElem?_cons_zero]; rfl)
    case hsx9ax1x4x7 => kernel_rfl
    case hfx9ax1x4x7 => kernel_rfl
    case hrx9ax1x4x7 => kernel_rfl
    case hQx9ax1x4x7 => exact fun _ _ _ h => h
    case hwx9ax1x4x7 => rfl
    case hyx9ax1x4x7 =>
      intro W hW
      go_simp
      try with_reducible rfl
    simp only [Act.put, List.setIfInBounds_toArray, List.set_cons_succ, List.set_cons_zero]
    refine wpAnyH_ready (rs := [10]) (by kernel_rfl) (by simp) ?_
    refine' AllReadyH.cons ?hoc10ax1x4x7 (fun K hK => ?stc10ax1x4x7) AllReadyH.nil
    case hoc10ax1x4x7 => (simp only [List.getElem?_toArray, List.getElem?_cons_succ, List.getElem?_cons_zero]; rfl)
    refine step_store_row rfl 55 (.tmp 2) (.tmp 15) rfl (w.heap.size + 1) X rfl rfl 55 _ GR.out IX.out SX.out OX.out ?_
    have hS' := (setRow_other Wax1x4x7 (w.heap.size + 1) w.heap.size X (by omega)).trans hS
    refine hK.out _ _ hS' (fun hHeld => ?_)
    clear hK K hS'
    simp only [Act.put]
    have GR' := Lib.hid (setRow_heap Wax1x4x7 _ _ X _ _ GR.out)
    have B' := Lib.hid (B.out.trans (below_row (g := w.heap.size + 1) Wax1x4x7 X (by omega)))
    clear GR B
    generalize Wax1x4x7.setRow (w.heap.size + 1) X = Wax1x4x7x10 at *
    have GR := Lib.hid GR'.out
    have B := Lib.hid B'.out
    clear hS GR' B'
    have hS := hHeld
    clear hHeld
    refine' wpAnyH_take (i := 11) ?h1x11ax1x4x7x10 ?hsx11ax1x4x7x10 ?hfx11ax1x4x7x10 ?hrx11ax1x4x7x10 ?hQx11ax1x4x7x10 (Or.inl ⟨?hwx11ax1x4x7x10, ?hyx11ax1x4x7x10⟩) hS ?restx11ax1x4x7x10
    case h1x11ax1x4x7x10 => (simp only [List.getElem?_toArray, List.getElem?_cons_succ, List.getElem?_cons_zero]; rfl)
    case hsx11ax1x4x7x10 => kernel_rfl
    case hfx11ax1x4x7x10 => kernel_rfl
    case hrx11ax1x4x7x10 => kernel_rfl
    case hQx11ax1x4x7x10 => exact fun _ _ _ h => h
    case hwx11ax1x4x7x10 => rfl
    case hyx11ax1x4x7x10 =>
      intro W hW
      go_simp
      try with_reducible rfl
    simp only [Act.put, List.setIfInBounds_toArray, List.set_cons_succ, List.set_cons_zero]
    refine wpAnyH_done (by kernel_rfl) ?_ _
    go_wp2_with fail
    exact bodyPost_ret (v := .tuple #[.agg X, .int .i64 0]) (results_cell_tmp Try.results28 _ _ (w.heap.size + 1) 55 _ (0, 0) _ rfl GR.out Try.underlying55 rfl IX.out) rfl (Y.out _ B.out)
  · have C4 : Hid (∀ W, Calls Try.prog 48 #[.agg X, .agg (bcells v), .func (.func 26) #[] #[]] W fun e w' => e = .returned (.tuple #[.agg Zx, .int .i64 3]) ∧ Below W.heap.size W w') := fun W => by
      have := C3.out W; unfold ChP at this; rw [if_neg h, if_neg h] at this; exact this
    have Y := Lib.hid (NO.out h)
    clear NO YES C3 h
    go_enter Try.func28, Try.ntmps28
    go_upto_region 1 with (fail)
    rw [← HW0.out]
    go_wp2_with fail
    refine (C0.out _ SV.out).mono ?_
    rintro e w1 ⟨g, rfl, hr, hb, hg⟩
    have hgw : w.heap.size + 1 < g := Nat.lt_of_lt_of_le (blk_lt GR.out) hg
    have R1 := Lib.hid hr
    have B1 := Lib.hid (BE.out.trans (hb.mono BE.out.size))
    have GA1 := Lib.hid ((hb.block _ (blk_lt GA.out)).trans GA.out)
    have GR1 := Lib.hid ((hb.block _ (blk_lt GR.out)).trans GR.out)
    clear hr hb hg SV GA GR BE
    have R := Lib.hid R1.out
    have B := Lib.hid B1.out
    have GA := Lib.hid GA1.out
    have GR := Lib.hid GR1.out
    clear R1 B1 GA1 GR1
    go_upto_region 2 with (fail)
    refine wp_region_held_drew (S := fun W => W.heap[w.heap.size]? = some (.cells (bcells v) 38 (0, 0))) (by kernel_rfl) (GA.out) (fun hS => ?_)
    have hd : Below w1.heap.size w1 w1.drew := (Below.refl _ _).drew
    have R := Lib.hid (R.out.below hd)
    have GR := Lib.hid ((hd.block _ (blk_lt GR.out)).trans GR.out)
    have B := Lib.hid (B.out.trans (hd.mono B.out.size))
    clear hd GA
    generalize w1.drew = Wbs at *
    refine' wpAnyH_take (i := 0) ?h1x0b ?hsx0b ?hfx0b ?hrx0b ?hQx0b (Or.inl ⟨?hwx0b, ?hyx0b⟩) hS ?restx0b
    case h1x0b => (simp only [List.getElem?_toArray, List.getElem?_cons_zero]; rfl)
    case hsx0b => kernel_rfl
    case hfx0b => kernel_rfl
    case hrx0b => kernel_rfl
    case hQx0b => exact fun _ _ _ h => h
    case hwx0b => rfl
    case hyx0b =>
      intro W hW
      go_simp
      try with_reducible rfl
    simp only [Act.put, List.setIfInBounds_toArray, List.set_cons_succ, List.set_cons_zero]
    refine' wpAnyH_take (i := 3) ?h1x3b ?hsx3b ?hfx3b ?hrx3b ?hQx3b (Or.inl ⟨?hwx3b, ?hyx3b⟩) hS ?restx3b
    case h1x3b => (simp only [List.getElem?_toArray, List.getElem?_cons_succ, List.getElem?_cons_zero]; rfl)
    case hsx3b => kernel_rfl
    case hfx3b => kernel_rfl
    case hrx3b => kernel_rfl
    case hQx3b => exact fun _ _ _ h => h
    case hwx3b => rfl
    case hyx3b =>
      intro W hW
      go_simp
      try with_reducible rfl
    simp only [Act.put, List.setIfInBounds_toArray, List.set_cons_succ, List.set_cons_zero]
    refine' wpAnyH_take (i := 6) ?h1x6b ?hsx6b ?hfx6b ?hrx6b ?hQx6b (yieldsIf_load_at ?hwx6b 38 (.tmp 1) ?hopx6b w.heap.size 0 rfl (bcells v) _ (fun W hW => range_row hW) Try.underlying38 rfl ?hix6b) hS ?restx6b
    case h1x6b => (simp only [List.getElem?_toArray, List.getElem?_cons_succ, List.getElem?_cons_zero]; rfl)
    case hopx6b => rfl
    case hsx6b => kernel_rfl
    case hfx6b => kernel_rfl
    case hrx6b => kernel_rfl
    case hQx6b => exact fun _ _ _ h => h
    case hwx6b => rfl
    case hix6b => exact IV.out
    simp only [Act.put, List.setIfInBounds_toArray, List.set_cons_succ, List.set_cons_zero]
    refine wpAnyH_ready (rs := [1]) (by kernel_rfl) (by simp) ?_
    refine' AllReadyH.cons ?hoc1b (fun K hK => ?stc1b) AllReadyH.nil
    case hoc1b => (simp only [List.getElem?_toArray, List.getElem?_cons_succ, List.getElem?_cons_zero]; rfl)
    go_simp
    refine (C1.out Wbs g R.out).mono ?_
    rintro e Wbx1 ⟨rfl, hr, hgr⟩
    have R' := Lib.hid hr
    have B' := Lib.hid (below_grown B.out hgr (fun k e => by cases e; omega))
    have GR' := Lib.hid (row_kept hgr GR.out (by omega))
    have hS' := row_kept hgr hS (by omega)
    clear hr hgr R B GR
    have R := Lib.hid R'.out
    have B := Lib.hid B'.out
    have GR := Lib.hid GR'.out
    clear R' B' GR'
    go_wp2_with fail
    refine hK.out _ _ hS' (fun hHeld => ?_)
    clear hK K hS'
    try simp only [Act.put, List.setIfInBounds_toArray, List.set_cons_succ, List.set_cons_zero]
    clear hS
    have hS := hHeld
    clear hHeld
    refine' wpAnyH_take (i := 2) ?h1x2bx1 ?hsx2bx1 ?hfx2bx1 ?hrx2bx1 ?hQx2bx1 (Or.inl ⟨?hwx2bx1, ?hyx2bx1⟩) hS ?restx2bx1
    case h1x2bx1 => (simp only [List.getElem?_toArray, List.getElem?_cons_succ, List.getElem?_cons_zero]; rfl)
    case hsx2bx1 => kernel_rfl
    case hfx2bx1 => kernel_rfl
    case hrx2bx1 => kernel_rfl
    case hQx2bx1 => exact fun _ _ _ h => h
    case hwx2bx1 => rfl
    case hyx2bx1 =>
      intro W hW
      have dd := HC.out
      go_simp
      try with_reducible rfl
    simp only [Act.put, List.setIfInBounds_toArray, List.set_cons_succ, List.set_cons_zero]
    refine wpAnyH_ready (rs := [4]) (by kernel_rfl) (by simp) ?_
    refine' AllReadyH.cons ?hoc4bx1 (fun K hK => ?stc4bx1) AllReadyH.nil
    case hoc4bx1 => (simp only [List.getElem?_toArray, List.getElem?_cons_succ, List.getElem?_cons_zero]; rfl)
    go_simp
    refine (C2.out Wbx1 g R.out).mono ?_
    rintro e Wbx1x4 ⟨rfl, hr, hgr⟩
    have R' := Lib.hid hr
    have B' := Lib.hid (below_grown B.out hgr (fun k e => by cases e; omega))
    have GR' := Lib.hid (row_kept hgr GR.out (by omega))
    have hS' := row_kept hgr hS (by omega)
    clear hr hgr R B GR
    have R := Lib.hid R'.out
    have B := Lib.hid B'.out
    have GR := Lib.hid GR'.out
    clear R' B' GR'
    go_wp2_with fail
    refine hK.out _ _ hS' (fun hHeld => ?_)
    clear hK K hS'
    try simp only [Act.put, List.setIfInBounds_toArray, List.set_cons_succ, List.set_cons_zero]
    clear hS
    have hS := hHeld
    clear hHeld
    refine' wpAnyH_take (i := 5) ?h1x5bx1x4 ?hsx5bx1x4 ?hfx5bx1x4 ?hrx5bx1x4 ?hQx5bx1x4 (yieldsIf_build ?hwx5bx1x4 55 #[(0, .tmp 9), (1, .tmp 11)] ?hopx5bx1x4 #[(0, .bool o), (1, .agg RC)] ?hvx5bx1x4 BC.out) hS ?restx5bx1x4
    case h1x5bx1x4 => (simp only [List.getElem?_toArray, List.getElem?_cons_succ, List.getElem?_cons_zero]; rfl)
    case hopx5bx1x4 => rfl
    case hvx5bx1x4 => kernel_rfl
    case hsx5bx1x4 => kernel_rfl
    case hfx5bx1x4 => kernel_rfl
    case hrx5bx1x4 => kernel_rfl
    case hQx5bx1x4 => exact fun _ _ _ h => h
    case hwx5bx1x4 => rfl
    simp only [Act.put, List.setIfInBounds_toArray, List.set_cons_succ, List.set_cons_zero]
    refine wpAnyH_ready (rs := [7]) (by kernel_rfl) (by simp) ?_
    refine' AllReadyH.cons ?hoc7bx1x4 (fun K hK => ?stc7bx1x4) AllReadyH.nil
    case hoc7bx1x4 => (simp only [List.getElem?_toArray, List.getElem?_cons_succ, List.getElem?_cons_zero]; rfl)
    go_simp
    refine (C4.out Wbx1x4).mono ?_
    rintro e Wbx1x4x7 ⟨rfl, hb⟩
    have B' := Lib.hid (B.out.trans (hb.mono B.out.size))
    have GR' := Lib.hid ((hb.block _ (blk_lt GR.out)).trans GR.out)
    have hS' := (hb.block _ (blk_lt hS)).trans hS
    clear R B GR hb
    have B := Lib.hid B'.out
    have GR := Lib.hid GR'.out
    clear B' GR'
    go_wp2_with fail
    refine hK.out _ _ hS' (fun hHeld => ?_)
    clear hK K hS'
    try simp only [Act.put, List.setIfInBounds_toArray, List.set_cons_succ, List.set_cons_zero]
    clear hS
    have hS := hHeld
    clear hHeld
    refine' wpAnyH_take (i := 8) ?h1x8bx1x4x7 ?hsx8bx1x4x7 ?hfx8bx1x4x7 ?hrx8bx1x4x7 ?hQx8bx1x4x7 (Or.inl ⟨?hwx8bx1x4x7, ?hyx8bx1x4x7⟩) hS ?restx8bx1x4x7
    case h1x8bx1x4x7 => (simp only [List.getElem?_toArray, List.getElem?_cons_succ, List.getElem?_cons_zero]; rfl)
    case hsx8bx1x4x7 => kernel_rfl
    case hfx8bx1x4x7 => kernel_rfl
    case hrx8bx1x4x7 => kernel_rfl
    case hQx8bx1x4x7 => exact fun _ _ _ h => h
    case hwx8bx1x4x7 => rfl
    case hyx8bx1x4x7 =>
      intro W hW
      go_simp
      try with_reducible rfl
    simp only [Act.put, List.setIfInBounds_toArray, List.set_cons_succ, List.set_cons_zero]
    refine' wpAnyH_take (i := 9) ?h1x9bx1x4x7 ?hsx9bx1x4x7 ?hfx9bx1x4x7 ?hrx9bx1x4x7 ?hQx9bx1x4x7 (Or.inl ⟨?hwx9bx1x4x7, ?hyx9bx1x4x7⟩) hS ?restx9bx1x4x7
    case h1x9bx1x4x7 => (simp only [List.getElem?_toArray, List.getElem?_cons_succ, List.getElem?_cons_zero]; rfl)
    case hsx9bx1x4x7 => kernel_rfl
    case hfx9bx1x4x7 => kernel_rfl
    case hrx9bx1x4x7 => kernel_rfl
    case hQx9bx1x4x7 => exact fun _ _ _ h => h
    case hwx9bx1x4x7 => rfl
    case hyx9bx1x4x7 =>
      intro W hW
      go_simp
      try with_reducible rfl
    simp only [Act.put, List.setIfInBounds_toArray, List.set_cons_succ, List.set_cons_zero]
    refine wpAnyH_ready (rs := [10]) (by kernel_rfl) (by simp) ?_
    refine' AllReadyH.cons ?hoc10bx1x4x7 (fun K hK => ?stc10bx1x4x7) AllReadyH.nil
    case hoc10bx1x4x7 => (simp only [List.getElem?_toArray, List.getElem?_cons_succ, List.getElem?_cons_zero]; rfl)
    refine step_store_row rfl 55 (.tmp 2) (.tmp 15) rfl (w.heap.size + 1) Zx rfl rfl 55 _ GR.out IZ.out rfl OZ.out ?_
    have hS' := (setRow_other Wbx1x4x7 (w.heap.size + 1) w.heap.size Zx (by omega)).trans hS
    refine hK.out _ _ hS' (fun hHeld => ?_)
    clear hK K hS'
    simp only [Act.put]
    have GR' := Lib.hid (setRow_heap Wbx1x4x7 _ _ Zx _ _ GR.out)
    have B' := Lib.hid (B.out.trans (below_row (g := w.heap.size + 1) Wbx1x4x7 Zx (by omega)))
    clear GR B
    generalize Wbx1x4x7.setRow (w.heap.size + 1) Zx = Wbx1x4x7x10 at *
    have GR := Lib.hid GR'.out
    have B := Lib.hid B'.out
    clear hS GR' B'
    have hS := hHeld
    clear hHeld
    refine' wpAnyH_take (i := 11) ?h1x11bx1x4x7x10 ?hsx11bx1x4x7x10 ?hfx11bx1x4x7x10 ?hrx11bx1x4x7x10 ?hQx11bx1x4x7x10 (Or.inl ⟨?hwx11bx1x4x7x10, ?hyx11bx1x4x7x10⟩) hS ?restx11bx1x4x7x10
    case h1x11bx1x4x7x10 => (simp only [List.getElem?_toArray, List.getElem?_cons_succ, List.getElem?_cons_zero]; rfl)
    case hsx11bx1x4x7x10 => kernel_rfl
    case hfx11bx1x4x7x10 => kernel_rfl
    case hrx11bx1x4x7x10 => kernel_rfl
    case hQx11bx1x4x7x10 => exact fun _ _ _ h => h
    case hwx11bx1x4x7x10 => rfl
    case hyx11bx1x4x7x10 =>
      intro W hW
      go_simp
      try with_reducible rfl
    simp only [Act.put, List.setIfInBounds_toArray, List.set_cons_succ, List.set_cons_zero]
    refine wpAnyH_done (by kernel_rfl) ?_ _
    go_wp2_with fail
    exact bodyPost_ret (v := .tuple #[.agg Zx, .int .i64 3]) (results_cell_tmp Try.results28 _ _ (w.heap.size + 1) 55 _ (0, 0) _ rfl GR.out Try.underlying55 rfl IZ.out) rfl (Y.out _ B.out)
end Go.Proofs.Ytbhkhkiidaemcaa
