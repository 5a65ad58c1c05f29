/-
  Contracts of the functions that the statements of package entry go through: counts, volumes, blocks, roots and tenants that are read of a value. Condition: the value is 44 bytes.
-/
import Derived.Test.YtbhkhkiidaemcaaEI
import Derived.Test.YtbhkhkiidaemcaaEGA
import Derived.Test.YtbhkhkiidaemcaaEGB
import Derived.Test.YtbhkhkiidaemcaaEGC
namespace Go.Proofs.Ytbhkhkiidaemcaa
open Go.RowKit
def RefP (w : World) (g : Nat) (p q r : List Int) (e : Ending) (w' : World) : Prop := e = .returned (.agg (rcells (numI p) q).toArray) ∧ rx.RD w' g r false ∧ w.grownBy w' (some g)
set_option maxRecDepth 100000 in
set_option maxHeartbeats 8000000 in
theorem nextRef (g : Nat) (p q r : List Int) (hp : p.length = 4) (hq : q.length = 32) (hl : (q ++ r).length ≤ 2000) (w : World) (h : rx.RD w g (p ++ (q ++ r)) false) : Calls Try.prog 42 #[.pointer (some ⟨g, 0, none⟩)] w (RefP w g p q r) := by
  have hz := z35
  have hgl := h.lt
  obtain ⟨W0, hW0⟩ : ∃ W0, W0 = w.alloc (.cells (rcells 0 (zs 32)).toArray 35) := ⟨_, rfl⟩
  have BE : Below w.heap.size w W0 := by rw [hW0]; exact (Below.refl _ _).alloc (Nat.le_refl _) _
  have GA : Hid (W0.heap[w.heap.size]? = some (.cells (rcells 0 (zs 32)).toArray 35 (0, 0))) := by
    show _ = _
    rw [hW0]; exact heap_alloc_new w _
  have R0 := Lib.hid (h.below BE)
  have g0 : w.grownBy W0 (some g) := by rw [hW0]; exact grown_alloc (grownBy_refl _ _) _
  have GR := Lib.hid g0
  have C1 : Hid (∀ W, rx.RD W g (p ++ (q ++ r)) false → Calls Try.prog 41 #[.pointer (some ⟨g, 0, none⟩)] W (rx.Rd32 W g p (q ++ r))) := fun W hW => rx.rd32 g p (q ++ r) hp W hW
  have C2 : Hid (∀ W, rx.RD W g (q ++ r) false → Calls Try.prog 50 #[.pointer (some ⟨g, 0, none⟩)] W (SumP W g q r)) := fun W hW => nextSum g q r hq hl W hW
  have HW0 := Lib.hid hW0
  have BC := Lib.hid (bld35c (numI p) q hq)
  have IP := Lib.hid (i35 (s := numI p) hq)
  have SP : Hid ((rcells 0 (zs 32)).toArray.size = (rcells (numI p) q).toArray.size) := by
    show _ = _
    simp [rcells, hq, zs_len]
  have OP := Lib.hid (one_r (numI p) q)
  clear hW0 h BE hp hq hl g0
  generalize hR : (rcells (numI p) q).toArray = R at *
  generalize (rcells 0 (zs 32)).toArray = Z at *
  have HR := Lib.hid hR
  clear hR
  go_enter Try.func42, Try.ntmps42
  go_upto_region 1 with (fail)
  rw [← HW0.out]
  go_wp2_with fail
  refine (C1.out _ R0.out).mono ?_
  rintro e w1 ⟨rfl, hr, hgr⟩
  have R1 := Lib.hid hr
  have GR1 := Lib.hid (octetReads.grownBy_trans GR.out hgr)
  have GA1 := Lib.hid (row_kept hgr GA.out (by omega))
  clear hr hgr R0 GR GA
  go_wp2_with fail
  refine (C2.out _ R1.out).mono ?_
  rintro e w2 ⟨rfl, hr, hgr⟩
  have R2 := Lib.hid hr
  have GR2 := Lib.hid (octetReads.grownBy_trans GR1.out hgr)
  have GA2 := Lib.hid (row_kept hgr GA1.out (by omega))
  clear hr hgr R1 GR1 GA1
  go_wp2_with (first
    | (refine wpList_build2_run (u1 := .int .u32 (numI p)) (u2 := .agg (bcells q)) rfl 35 0 1 (.tmp 4) (.tmp 6) rfl rfl rfl (BC.out _) ?_)
    | (refine wpList_store_row rfl 35 (.tmp 2) (.tmp 7) rfl w.heap.size R rfl rfl 35 Z GA2.out IP.out SP.out OP.out ?_))
  exact bodyPost_ret (v := .agg R) (results_cell_row Try.results42 _ _ w.heap.size 35 _ (0, 0) _ rfl (setRow_heap _ _ _ _ _ _ GA2.out) Try.underlying35 rfl IP.out) rfl ⟨by rw [HR.out], R2.out.setRow _ (by omega) (by omega), grown_row GR2.out _ (Nat.le_refl _) _⟩
end Go.Proofs.Ytbhkhkiidaemcaa
