/-
  Contracts of the functions that the statements of package entry go through: blocks are read of a value. Condition: the value is 44 bytes.
-/
import Derived.Test.YtbhkhkiidaemcaaEL
namespace Go.Proofs.Ytbhkhkiidaemcaa
open Go.RowKit
theorem wpList_build_any {ops : Array Oper} {rest : List Oper} {o : Oper} {a : Act} {w : World} {Q : Exit → Act → World → Prop} (hgd : o.guard = none) (t : TypeId) (parts : Array (Nat × Operand)) (ho : o.op = .build t parts)
    (vs : Array (Nat × Value)) (hv : parts.map (fun (i, x) => (i, a.eval x)) = vs) {v : Value} (hr : (Instr.build t vs).run Try.prog w = .ok v w) (h : wpList Try.prog ops Q rest (a.put o.dst v) w) : wpList Try.prog ops Q (o :: rest) a w := by
  refine wpList_plain hgd fun K hK => ?_
  subst hv
  unfold Oper.wp execOp
  simp only [ho, Sem.run_bind, Sem.run_pure]
  rw [hr]
  exact hK _ _ h
def kS (v : List Int) : Int := numI (pt v 0 4)
def kZ (v : List Int) : List Int := pt v 4 32
def kT (v : List Int) : Int := numI (pt v 36 8)
set_option maxRecDepth 100000 in
set_option maxHeartbeats 8000000 in
theorem readBlk (v : List Int) (hv : Byt v) (hl : v.length = 44) (w : World) : Calls Try.prog 22 #[.agg (bcells v)] w fun e w' => e = .returned (.agg (kcells (kS v) (kZ v) (kT v))) ∧ Below w.heap.size w w' := by
  have zl : (kZ v).length = 32 := pt_len v 4 32 (by omega)
  have hz := z37
  obtain ⟨Zx, hZx⟩ : ∃ Zx, Zx = kcells 0 (zs 32) 0 := ⟨_, rfl⟩
  obtain ⟨W0, hW0⟩ : ∃ W0, W0 = (w.alloc (.cells (bcells v) 38)).alloc (.cells Zx 37) := ⟨_, rfl⟩
  have BE : Hid (Below w.heap.size w W0) := by rw [hW0]; exact ((Below.refl _ _).alloc (Nat.le_refl _) _).alloc (by simp) _
  have GA : Hid (W0.heap[w.heap.size]? = some (.cells (bcells v) 38 (0, 0))) := by
    show _ = _
    rw [hW0, Below.heap_alloc _ _ _ (by simp)]; exact heap_alloc_new w _
  have GR : Hid (W0.heap[w.heap.size + 1]? = some (.cells Zx 37 (0, 0))) := by
    show _ = _
    rw [hW0]; exact heap_alloc2_new w _ _
  have SV := Lib.hid (sees_rowT W0 w.heap.size 38 v hv (by rw [hl]; decide) GA.out 44 hl.symm)
  have C0 : Hid (∀ W, Sees W (.slice (some ⟨w.heap.size, 0, none⟩) 44 44) v → Calls Try.prog 36 #[.slice (some ⟨w.heap.size, 0, none⟩) 44 44] W (rx.ReadP W v)) := fun W hW => rx.readn _ v (by omega) W hW
  have sp1 : v = pt v 0 4 ++ (pt v 4 32 ++ v.drop 36) := by
    have h1 := pt_next v 0 4
    rw [pt_next v 4 32] at h1
    exact h1
  have sp2 : v.drop 36 = pt v 36 8 ++ v.drop 44 := pt_next v 36 8
  have C1 : Hid (∀ W g, rx.RD W g v false → Calls Try.prog 42 #[.pointer (some ⟨g, 0, none⟩)] W fun e w' => e = .returned (.agg (rcells (kS v) (kZ v)).toArray) ∧ rx.RD w' g (v.drop 36) false ∧ W.grownBy w' (some g)) := fun W g hW => nextRef g (pt v 0 4) (pt v 4 32) (v.drop 36) (pt_len v 0 4 (by omega)) zl (by rw [List.length_append, pt_len v 4 32 (by omega), List.length_drop]; omega) W (by rw [← sp1]; exact hW)
  have C2 : Hid (∀ W g, rx.RD W g (v.drop 36) false → Calls Try.prog 37 #[.pointer (some ⟨g, 0, none⟩)] W fun e w' => e = .returned (.int .u64 (kT v)) ∧ rx.RD w' g (v.drop 44) false ∧ W.grownBy w' (some g)) := fun W g hW => rx.rd64 g (pt v 36 8) (v.drop 44) (pt_len v 36 8 (by omega)) W (by rw [← sp2]; exact hW)
  have BC := Lib.hid (bld37c (kS v) (kZ v) (kT v) zl)
  have IX : Hid ((Try.prog.info? 37).map (·.size) = some (kcells (kS v) (kZ v) (kT v)).size) := i37 zl
  have SX : Hid (Zx.size = (kcells (kS v) (kZ v) (kT v)).size) := by
    show _ = _
    rw [hZx]; simp [kcells, rcells, zl, zs_len]
  have OX := Lib.hid (one_k (kS v) (kZ v) (kT v))
  have HW0 := Lib.hid hW0
  rw [← hZx] at hz
  clear hW0 zl sp1 sp2 hv hl hZx
  generalize kS v = s at *
  generalize kZ v = z at *
  generalize kT v = q at *
  generalize kcells s z q = X at *
  generalize (rcells s z).toArray = RC at *
  go_enter Try.func22, Try.ntmps22
  go_upto_region 1 with (fail)
  rw [← HW0.out]
  go_wp2_with fail
  refine (C0.out _ SV.out).mono ?_
  rintro e w1 ⟨g, rfl, hr, hb, hg⟩
  have hgw : w.heap.size + 1 < g := Nat.lt_of_lt_of_le (blk_lt GR.out) hg
  have R1 := Lib.hid hr
  have B1 := Lib.hid (BE.out.trans (hb.mono BE.out.size))
  have GA1 := Lib.hid ((hb.block _ (blk_lt GA.out)).trans GA.out)
  have GR1 := Lib.hid ((hb.block _ (blk_lt GR.out)).trans GR.out)
  clear hr hb hg SV GA GR BE
  have R := Lib.hid R1.out
  have B := Lib.hid B1.out
  have GA := Lib.hid GA1.out
  have GR := Lib.hid GR1.out
  clear R1 B1 GA1 GR1
  go_upto_region 2 with (fail)
  go_wp2_with fail
  refine (C1.out _ _ R.out).mono ?_
  rintro e w2 ⟨rfl, hr, hgr⟩
  have R' := Lib.hid hr
  have B' := Lib.hid (below_grown B.out hgr (fun k e => by cases e; omega))
  have GR' := Lib.hid (row_kept hgr GR.out (by omega))
  have GA' := Lib.hid (row_kept hgr GA.out (by omega))
  clear hr hgr R B GR GA
  have R := Lib.hid R'.out
  have B := Lib.hid B'.out
  have GR := Lib.hid GR'.out
  have GA := Lib.hid GA'.out
  clear R' B' GR' GA'
  go_wp2_with fail
  refine (C2.out _ _ R.out).mono ?_
  rintro e w3 ⟨rfl, hr, hgr⟩
  have R' := Lib.hid hr
  have B' := Lib.hid (below_grown B.out hgr (fun k e => by cases e; omega))
  have GR' := Lib.hid (row_kept hgr GR.out (by omega))
  have GA' := Lib.hid (row_kept hgr GA.out (by omega))
  clear hr hgr R B GR GA
  have R := Lib.hid R'.out
  have B := Lib.hid B'.out
  have GR := Lib.hid GR'.out
  have GA := Lib.hid GA'.out
  clear R' B' GR' GA'
  go_wp2_with (first
    | (refine wpList_build_any rfl 37 #[(0, .tmp 7), (1, .tmp 9)] rfl #[(0, .agg RC), (1, .int .u64 q)] (by kernel_rfl) (BC.out _) ?_)
    | (refine wpList_store_row rfl 37 (.tmp 2) (.tmp 10) rfl (w.heap.size + 1) X rfl rfl 37 Zx GR.out IX.out SX.out OX.out ?_))
  exact bodyPost_ret (v := .agg X) (results_cell_row Try.results22 _ _ (w.heap.size + 1) 37 _ (0, 0) _ rfl (setRow_heap _ _ _ _ _ _ GR.out) Try.underlying37 rfl IX.out) rfl ⟨rfl, B.out.trans (below_row (g := w.heap.size + 1) _ _ (by omega))⟩
end Go.Proofs.Ytbhkhkiidaemcaa
