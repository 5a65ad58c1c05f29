/-
  Contracts of the functions that the statements of package entry go through: tenants are read of a value. Condition: the value is 44 bytes.
-/
import Derived.Test.YtbhkhkiidaemcaaEN
namespace Go.Proofs.Ytbhkhkiidaemcaa
open Go.RowKit
def nZ (v : List Int) : List Int := pt v 0 32
def nR (v : List Int) : Int := numI (pt v 32 2)
def nQ (v : List Int) : Int := numI (pt v 34 2)
def nC (v : List Int) : Int := numI (pt v 36 1)
theorem num16 {p : List Int} (hp : Byt p) (hl : p.length = 2) : 0 ≤ numI p ∧ numI p ≤ 65535 := by
  have := numI_bd 2 p hl hp
  have e : (256 : Int) ^ 2 = 65536 := by decide
  omega
set_option maxRecDepth 100000 in
set_option maxHeartbeats 8000000 in
theorem readTen (v : List Int) (hv : Byt v) (hl : v.length = 44) (w : World) : Calls Try.prog 29 #[.agg (bcells v)] w (ChP w (nMay (nR v) (nQ v) (nC v)) (nW (nZ v) (nR v) (nQ v) (nC v)) v (.agg (ncells (nZ v) (nR v) (nQ v) (nC v))) (.agg (ncells (zs 32) 0 0 0))) := by
  have zl : (nZ v).length = 32 := pt_len v 0 32 (by omega)
  have zb : Byt (nZ v) := pt_byt hv 0 32
  have rb := num16 (pt_byt hv 32 2) (pt_len v 32 2 (by omega))
  have qb := num16 (pt_byt hv 34 2) (pt_len v 34 2 (by omega))
  have cb := num8 (pt_byt hv 36 1) (pt_len v 36 1 (by omega))
  have hz := z57
  obtain ⟨Zx, hZx⟩ : ∃ Zx, Zx = ncells (zs 32) 0 0 0 := ⟨_, rfl⟩
  obtain ⟨W0, hW0⟩ : ∃ W0, W0 = (w.alloc (.cells (bcells v) 38)).alloc (.cells Zx 57) := ⟨_, rfl⟩
  have BE : Hid (Below w.heap.size w W0) := by rw [hW0]; exact ((Below.refl _ _).alloc (Nat.le_refl _) _).alloc (by simp) _
  have GA : Hid (W0.heap[w.heap.size]? = some (.cells (bcells v) 38 (0, 0))) := by
    show _ = _
    rw [hW0, Below.heap_alloc _ _ _ (by simp)]; exact heap_alloc_new w _
  have GR : Hid (W0.heap[w.heap.size + 1]? = some (.cells Zx 57 (0, 0))) := by
    show _ = _
    rw [hW0]; exact heap_alloc2_new w _ _
  have SV := Lib.hid (sees_rowT W0 w.heap.size 38 v hv (by rw [hl]; decide) GA.out 44 hl.symm)
  have C0 : Hid (∀ W, Sees W (.slice (some ⟨w.heap.size, 0, none⟩) 44 44) v → Calls Try.prog 36 #[.slice (some ⟨w.heap.size, 0, none⟩) 44 44] W (rx.ReadP W v)) := fun W hW => rx.readn _ v (by omega) W hW
  have sp1 : v = pt v 0 32 ++ v.drop 32 := pt_next v 0 32
  have sp2 : v.drop 32 = pt v 32 2 ++ v.drop 34 := pt_next v 32 2
  have sp3 : v.drop 34 = pt v 34 2 ++ v.drop 36 := pt_next v 34 2
  have sp4 : v.drop 36 = pt v 36 1 ++ v.drop 37 := pt_next v 36 1
  have C1 : Hid (∀ W g, rx.RD W g v false → Calls Try.prog 50 #[.pointer (some ⟨g, 0, none⟩)] W fun e w' => e = .returned (.agg (bcells (nZ v))) ∧ rx.RD w' g (v.drop 32) false ∧ W.grownBy w' (some g)) := fun W g hW => nextSum g (pt v 0 32) (v.drop 32) zl (by rw [← sp1]; omega) W (by rw [← sp1]; exact hW)
  have C2 : Hid (∀ W g, rx.RD W g (v.drop 32) false → Calls Try.prog 51 #[.pointer (some ⟨g, 0, none⟩)] W fun e w' => e = .returned (.int .u16 (nR v)) ∧ rx.RD w' g (v.drop 34) false ∧ W.grownBy w' (some g)) := fun W g hW => rx.rd16 g (pt v 32 2) (v.drop 34) (pt_len v 32 2 (by omega)) W (by rw [← sp2]; exact hW)
  have C3 : Hid (∀ W g, rx.RD W g (v.drop 34) false → Calls Try.prog 51 #[.pointer (some ⟨g, 0, none⟩)] W fun e w' => e = .returned (.int .u16 (nQ v)) ∧ rx.RD w' g (v.drop 36) false ∧ W.grownBy w' (some g)) := fun W g hW => rx.rd16 g (pt v 34 2) (v.drop 36) (pt_len v 34 2 (by omega)) W (by rw [← sp3]; exact hW)
  have C4 : Hid (∀ W g, rx.RD W g (v.drop 36) false → Calls Try.prog 49 #[.pointer (some ⟨g, 0, none⟩)] W fun e w' => e = .returned (.int .u8 (nC v)) ∧ rx.RD w' g (v.drop 37) false ∧ W.grownBy w' (some g)) := fun W g hW => rx.rd8 g (pt v 36 1) (v.drop 37) (pt_len v 36 1 (by omega)) W (by rw [← sp4]; exact hW)
  have C5 : Hid (∀ W, Calls Try.prog 52 #[.agg (ncells (nZ v) (nR v) (nQ v) (nC v)), .agg (bcells v), .func (.func 27) #[] #[]] W (ChP W (nMay (nR v) (nQ v) (nC v)) (nW (nZ v) (nR v) (nQ v) (nC v)) v (.agg (ncells (nZ v) (nR v) (nQ v) (nC v))) (.agg Zx))) := fun W => by
    rw [hZx]
    exact chkTen _ (ncells (zs 32) 0 0 0) (i57 zl) (i57 (zs_len _)) (one_n _ _ _ _) (one_n _ _ _ _) z57 _ _ v (nW_byt zb) hv (nW_len zl) hl (fun W => writeTen _ _ _ _ zb zl W) W
  have r0 : 0 ≤ nR v := rb.1
  have r1 : nR v ≤ 65535 := rb.2
  have q0 : 0 ≤ nQ v := qb.1
  have q1 : nQ v ≤ 65535 := qb.2
  have c0 : 0 ≤ nC v := cb.1
  have c1 : nC v ≤ 255 := cb.2
  have BC := Lib.hid (bld57c (nZ v) (nR v) (nQ v) (nC v) zl)
  have IX : Hid ((Try.prog.info? 57).map (·.size) = some (ncells (nZ v) (nR v) (nQ v) (nC v)).size) := i57 zl
  have IZ : Hid ((Try.prog.info? 57).map (·.size) = some Zx.size) := by rw [hZx]; exact i57 (zs_len _)
  have SX : Hid (Zx.size = (ncells (nZ v) (nR v) (nQ v) (nC v)).size) := by
    show _ = _
    rw [hZx]; simp [ncells, zl, zs_len]
  have OX := Lib.hid (one_n (nZ v) (nR v) (nQ v) (nC v))
  have OZ : Hid (Zx.all (·.oneCell') = true) := by rw [hZx]; exact one_n _ _ _ _
  have IV := Lib.hid (i38 hl)
  have HW0 := Lib.hid hW0
  rw [← hZx] at hz ⊢
  have NO := Lib.hid (fun (h : ¬ (nMay (nR v) (nQ v) (nC v) ∧ nW (nZ v) (nR v) (nQ v) (nC v) = v)) W' (hb : Below w.heap.size w W') => chP_no (X := .agg (ncells (nZ v) (nR v) (nQ v) (nC v))) (Z := .agg Zx) h hb)
  have YES := Lib.hid (fun (h : nMay (nR v) (nQ v) (nC v) ∧ nW (nZ v) (nR v) (nQ v) (nC v) = v) W' (hb : Below w.heap.size w W') => chP_yes (X := .agg (ncells (nZ v) (nR v) (nQ v) (nC v))) (Z := .agg Zx) h hb)
  clear hW0 rb qb cb zl zb sp1 sp2 sp3 sp4 hv hl hZx
  generalize nZ v = z at *
  generalize nR v = r at *
  generalize nQ v = q at *
  generalize nC v = c at *
  generalize ncells z r q c = X at *
  by_cases h : nMay r q c ∧ nW z r q c = v
  · have C6 : Hid (∀ W, Calls Try.prog 52 #[.agg X, .agg (bcells v), .func (.func 27) #[] #[]] W fun e w' => e = .returned (.tuple #[.agg X, .int .i64 0]) ∧ Below W.heap.size W w') := fun W => by
      have := C5.out W; unfold ChP at this; rw [if_pos h, if_pos h] at this; exact this
    have Y := Lib.hid (YES.out h)
    clear NO YES C5 h
    go_enter Try.func29, Try.ntmps29
    go_upto_region 1 with (fail)
    rw [← HW0.out]
    go_wp2_with fail
    refine (C0.out _ SV.out).mono ?_
    rintro e w1 ⟨g, rfl, hr, hb, hg⟩
    have hgw : w.heap.size + 1 < g := Nat.lt_of_lt_of_le (blk_lt GR.out) hg
    have R1 := Lib.hid hr
    have B1 := Lib.hid (BE.out.trans (hb.mono BE.out.size))
    have GA1 := Lib.hid ((hb.block _ (blk_lt GA.out)).trans GA.out)
    have GR1 := Lib.hid ((hb.block _ (blk_lt GR.out)).trans GR.out)
    clear hr hb hg SV GA GR BE
    have R := Lib.hid R1.out
    have B := Lib.hid B1.out
    have GA := Lib.hid GA1.out
    have GR := Lib.hid GR1.out
    clear R1 B1 GA1 GR1
    go_upto_region 2 with (fail)
    go_wp2_with fail
    refine (C1.out _ _ R.out).mono ?_
    rintro e w2 ⟨rfl, hr, hgr⟩
    have R' := Lib.hid hr
    have B' := Lib.hid (below_grown B.out hgr (fun k e => by cases e; omega))
    have GR' := Lib.hid (row_kept hgr GR.out (by omega))
    have GA' := Lib.hid (row_kept hgr GA.out (by omega))
    clear hr hgr R B GR GA
    have R := Lib.hid R'.out
    have B := Lib.hid B'.out
    have GR := Lib.hid GR'.out
    have GA := Lib.hid GA'.out
    clear R' B' GR' GA'
    go_wp2_with fail
    refine (C2.out _ _ R.out).mono ?_
    rintro e w3 ⟨rfl, hr, hgr⟩
    have R' := Lib.hid hr
    have B' := Lib.hid (below_grown B.out hgr (fun k e => by cases e; omega))
    have GR' := Lib.hid (row_kept hgr GR.out (by omega))
    have GA' := Lib.hid (row_kept hgr GA.out (by omega))
    clear hr hgr R B GR GA
    have R := Lib.hid R'.out
    have B := Lib.hid B'.out
    have GR := Lib.hid GR'.out
    have GA := Lib.hid GA'.out
    clear R' B' GR' GA'
    go_wp2_with fail
    refine (C3.out _ _ R.out).mono ?_
    rintro e w4 ⟨rfl, hr, hgr⟩
    have R' := Lib.hid hr
    have B' := Lib.hid (below_grown B.out hgr (fun k e => by cases e; omega))
    have GR' := Lib.hid (row_kept hgr GR.out (by omega))
    have GA' := Lib.hid (row_kept hgr GA.out (by omega))
    clear hr hgr R B GR GA
    have R := Lib.hid R'.out
    have B := Lib.hid B'.out
    have GR := Lib.hid GR'.out
    have GA := Lib.hid GA'.out
    clear R' B' GR' GA'
    go_wp2_with fail
    refine (C4.out _ _ R.out).mono ?_
    rintro e w5 ⟨rfl, hr, hgr⟩
    have R' := Lib.hid hr
    have B' := Lib.hid (below_grown B.out hgr (fun k e => by cases e; omega))
    have GR' := Lib.hid (row_kept hgr GR.out (by omega))
    have GA' := Lib.hid (row_kept hgr GA.out (by omega))
    clear hr hgr R B GR GA
    have R := Lib.hid R'.out
    have B := Lib.hid B'.out
    have GR := Lib.hid GR'.out
    have GA := Lib.hid GA'.out
    clear R' B' GR' GA'
    have GN := Lib.hid (heap_alloc_new w5 (.cells Zx 57))
    have RN := Lib.hid (alloc_setRowT w5 Zx X 57 _ rfl)
    have hal : Below w5.heap.size w5 (w5.alloc (.cells X 57)) := (Below.refl _ _).alloc (Nat.le_refl _) _
    have GX := Lib.hid (heap_alloc_new w5 (.cells X 57))
    have B' := Lib.hid (B.out.trans (hal.mono B.out.size))
    have GR' := Lib.hid ((hal.block _ (blk_lt GR.out)).trans GR.out)
    have GA' := Lib.hid ((hal.block _ (blk_lt GA.out)).trans GA.out)
    clear hal R
    go_upto_region 3 with (first
      | (refine wpList_build_any rfl 57 #[(0, .tmp 9), (1, .tmp 12), (2, .tmp 15), (3, .tmp 18)] rfl #[(0, .agg (bcells z)), (1, .int .i64 r), (2, .int .i64 q), (3, .int .i64 c)] (by kernel_rfl) (BC.out _) ?_)
      | (refine wpList_store_row rfl 57 (.tmp 5) (.tmp 19) rfl w5.heap.size X rfl rfl 57 Zx GN.out IX.out SX.out OX.out ?_))
    rw [RN.out]
    generalize w5.alloc (.cells X 57) = w6 at *
    generalize w5.heap.size = g6 at *
    go_wp2_with (first
      | (refine wpList_load_row rfl 57 (.tmp 5) rfl g6 rfl 57 X (0, 0) _ GX.out Try.underlying57 rfl IX.out ?_)
      | (refine wpList_load_row rfl 38 (.tmp 1) rfl w.heap.size rfl 38 (bcells v) (0, 0) _ GA'.out Try.underlying38 rfl IV.out ?_))
    refine (C6.out _).mono ?_
    rintro e w7 ⟨rfl, hb⟩
    have B7 := Lib.hid (B'.out.trans (hb.mono B'.out.size))
    have GR7 := Lib.hid ((hb.block _ (blk_lt GR'.out)).trans GR'.out)
    clear hb
    go_wp2_with (refine wpList_store_row rfl 57 (.tmp 2) (.tmp 23) rfl (w.heap.size + 1) X rfl rfl 57 Zx GR7.out IX.out SX.out OX.out ?_)
    exact bodyPost_ret (v := .tuple #[.agg X, .int .i64 0]) (results_cell_tmp Try.results29 _ _ (w.heap.size + 1) 57 _ (0, 0) _ rfl (setRow_heap _ _ _ _ _ _ GR7.out) Try.underlying57 rfl IX.out) rfl (Y.out _ (B7.out.trans (below_row (g := w.heap.size + 1) _ _ (by omega))))
  · have C6 : Hid (∀ W, Calls Try.prog 52 #[.agg X, .agg (bcells v), .func (.func 27) #[] #[]] W fun e w' => e = .returned (.tuple #[.agg Zx, .int .i64 3]) ∧ Below W.heap.size W w') := fun W => by
      have := C5.out W; unfold ChP at this; rw [if_neg h, if_neg h] at this; exact this
    have Y := Lib.hid (NO.out h)
    clear NO YES C5 h
    go_enter Try.func29, Try.ntmps29
    go_upto_region 1 with (fail)
    rw [← HW0.out]
    go_wp2_with fail
    refine (C0.out _ SV.out).mono ?_
    rintro e w1 ⟨g, rfl, hr, hb, hg⟩
    have hgw : w.heap.size + 1 < g := Nat.lt_of_lt_of_le (blk_lt GR.out) hg
    have R1 := Lib.hid hr
    have B1 := Lib.hid (BE.out.trans (hb.mono BE.out.size))
    have GA1 := Lib.hid ((hb.block _ (blk_lt GA.out)).trans GA.out)
    have GR1 := Lib.hid ((hb.block _ (blk_lt GR.out)).trans GR.out)
    clear hr hb hg SV GA GR BE
    have R := Lib.hid R1.out
    have B := Lib.hid B1.out
    have GA := Lib.hid GA1.out
    have GR := Lib.hid GR1.out
    clear R1 B1 GA1 GR1
    go_upto_region 2 with (fail)
    go_wp2_with fail
    refine (C1.out _ _ R.out).mono ?_
    rintro e w2 ⟨rfl, hr, hgr⟩
    have R' := Lib.hid hr
    have B' := Lib.hid (below_grown B.out hgr (fun k e => by cases e; omega))
    have GR' := Lib.hid (row_kept hgr GR.out (by omega))
    have GA' := Lib.hid (row_kept hgr GA.out (by omega))
    clear hr hgr R B GR GA
    have R := Lib.hid R'.out
    have B := Lib.hid B'.out
    have GR := Lib.hid GR'.out
    have GA := Lib.hid GA'.out
    clear R' B' GR' GA'
    go_wp2_with fail
    refine (C2.out _ _ R.out).mono ?_
    rintro e w3 ⟨rfl, hr, hgr⟩
    have R' := Lib.hid hr
    have B' := Lib.hid (below_grown B.out hgr (fun k e => by cases e; omega))
    have GR' := Lib.hid (row_kept hgr GR.out (by omega))
    have GA' := Lib.hid (row_kept hgr GA.out (by omega))
    clear hr hgr R B GR GA
    have R := Lib.hid R'.out
    have B := Lib.hid B'.out
    have GR := Lib.hid GR'.out
    have GA := Lib.hid GA'.out
    clear R' B' GR' GA'
    go_wp2_with fail
    refine (C3.out _ _ R.out).mono ?_
    rintro e w4 ⟨rfl, hr, hgr⟩
    have R' := Lib.hid hr
    have B' := Lib.hid (below_grown B.out hgr (fun k e => by cases e; omega))
    have GR' := Lib.hid (row_kept hgr GR.out (by omega))
    have GA' := Lib.hid (row_kept hgr GA.out (by omega))
    clear hr hgr R B GR GA
    have R := Lib.hid R'.out
    have B := Lib.hid B'.out
    have GR := Lib.hid GR'.out
    have GA := Lib.hid GA'.out
    clear R' B' GR' GA'
    go_wp2_with fail
    refine (C4.out _ _ R.out).mono ?_
    rintro e w5 ⟨rfl, hr, hgr⟩
    have R' := Lib.hid hr
    have B' := Lib.hid (below_grown B.out hgr (fun k e => by cases e; omega))
    have GR' := Lib.hid (row_kept hgr GR.out (by omega))
    have GA' := Lib.hid (row_kept hgr GA.out (by omega))
    clear hr hgr R B GR GA
    have R := Lib.hid R'.out
    have B := Lib.hid B'.out
    have GR := Lib.hid GR'.out
    have GA := Lib.hid GA'.out
    clear R' B' GR' GA'
    have GN := Lib.hid (heap_alloc_new w5 (.cells Zx 57))
    have RN := Lib.hid (alloc_setRowT w5 Zx X 57 _ rfl)
    have hal : Below w5.heap.size w5 (w5.alloc (.cells X 57)) := (Below.refl _ _).alloc (Nat.le_refl _) _
    have GX := Lib.hid (heap_alloc_new w5 (.cells X 57))
    have B' := Lib.hid (B.out.trans (hal.mono B.out.size))
    have GR' := Lib.hid ((hal.block _ (blk_lt GR.out)).trans GR.out)
    have GA' := Lib.hid ((hal.block _ (blk_lt GA.out)).trans GA.out)
    clear hal R
    go_upto_region 3 with (first
      | (refine wpList_build_any rfl 57 #[(0, .tmp 9), (1, .tmp 12), (2, .tmp 15), (3, .tmp 18)] rfl #[(0, .agg (bcells z)), (1, .int .i64 r), (2, .int .i64 q), (3, .int .i64 c)] (by kernel_rfl) (BC.out _) ?_)
      | (refine wpList_store_row rfl 57 (.tmp 5) (.tmp 19) rfl w5.heap.size X rfl rfl 57 Zx GN.out IX.out SX.out OX.out ?_))
    rw [RN.out]
    generalize w5.alloc (.cells X 57) = w6 at *
    generalize w5.heap.size = g6 at *
    go_wp2_with (first
      | (refine wpList_load_row rfl 57 (.tmp 5) rfl g6 rfl 57 X (0, 0) _ GX.out Try.underlying57 rfl IX.out ?_)
      | (refine wpList_load_row rfl 38 (.tmp 1) rfl w.heap.size rfl 38 (bcells v) (0, 0) _ GA'.out Try.underlying38 rfl IV.out ?_))
    refine (C6.out _).mono ?_
    rintro e w7 ⟨rfl, hb⟩
    have B7 := Lib.hid (B'.out.trans (hb.mono B'.out.size))
    have GR7 := Lib.hid ((hb.block _ (blk_lt GR'.out)).trans GR'.out)
    clear hb
    go_wp2_with (refine wpList_store_row rfl 57 (.tmp 2) (.tmp 23) rfl (w.heap.size + 1) Zx rfl rfl 57 Zx GR7.out IZ.out rfl OZ.out ?_)
    exact bodyPost_ret (v := .tuple #[.agg Zx, .int .i64 3]) (results_cell_tmp Try.results29 _ _ (w.heap.size + 1) 57 _ (0, 0) _ rfl (setRow_heap _ _ _ _ _ _ GR7.out) Try.underlying57 rfl IZ.out) rfl (Y.out _ (B7.out.trans (below_row (g := w.heap.size + 1) _ _ (by omega))))
end Go.Proofs.Ytbhkhkiidaemcaa
