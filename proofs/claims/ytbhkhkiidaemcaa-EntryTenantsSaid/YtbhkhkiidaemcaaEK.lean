/-
  Contracts of the functions that the statements of package entry go through: counts, volumes and blocks that are read of a value. Condition: the value is 44 bytes.
-/
import Derived.Test.YtbhkhkiidaemcaaEJ
namespace Go.Proofs.Ytbhkhkiidaemcaa
open Go.RowKit
theorem drop44 {v : List Int} (hl : v.length = 44) : v.drop 44 = [] := List.drop_eq_nil_of_le (by omega)
set_option maxRecDepth 100000 in
set_option maxHeartbeats 8000000 in
theorem readCount (v : List Int) (hv : Byt v) (hl : v.length = 44) (w : World) : Calls Try.prog 20 #[.agg (bcells v)] w (ChP w True (cW (numI (pt v 0 8))) v (.int .u64 (numI (pt v 0 8))) (.int .u64 0)) := by
  have nb := num64 (pt_byt hv 0 8) (pt_len v 0 8 (by omega))
  obtain ⟨W0, hW0⟩ : ∃ W0, W0 = w.alloc (.cells (bcells v) 38) := ⟨_, rfl⟩
  have BE : Hid (Below w.heap.size w W0) := by rw [hW0]; exact (Below.refl _ _).alloc (Nat.le_refl _) _
  have GA : Hid (W0.heap[w.heap.size]? = some (.cells (bcells v) 38 (0, 0))) := by
    show _ = _
    rw [hW0]; exact heap_alloc_new w _
  have SV := Lib.hid (sees_rowT W0 w.heap.size 38 v hv (by rw [hl]; decide) GA.out 44 hl.symm)
  have C0 : Hid (∀ W, Sees W (.slice (some ⟨w.heap.size, 0, none⟩) 44 44) v → Calls Try.prog 36 #[.slice (some ⟨w.heap.size, 0, none⟩) 44 44] W (rx.ReadP W v)) := fun W hW => rx.readn _ v (by omega) W hW
  have sp : v = pt v 0 8 ++ v.drop 8 := pt_next v 0 8
  have C1 : Hid (∀ W g, rx.RD W g v false → Calls Try.prog 37 #[.pointer (some ⟨g, 0, none⟩)] W (rx.Rd64 W g (pt v 0 8) (v.drop 8))) := fun W g hW => rx.rd64 g (pt v 0 8) (v.drop 8) (pt_len v 0 8 (by omega)) W (by rw [← sp]; exact hW)
  have C2 : Hid (∀ W, Calls Try.prog 38 #[.int .u64 (numI (pt v 0 8)), .agg (bcells v), .func (.func 39) #[] #[]] W (ChP W True (cW (numI (pt v 0 8))) v (.int .u64 (numI (pt v 0 8))) (.int .u64 0))) := fun W => chkCount _ nb.1 nb.2 v hv hl W
  have IV := Lib.hid (i38 hl)
  have HW0 := Lib.hid hW0
  clear hW0 nb sp hv hl
  have NO := Lib.hid (fun (h : ¬ (True ∧ cW (numI (pt v 0 8)) = v)) W' (hb : Below w.heap.size w W') => chP_no (X := .int .u64 (numI (pt v 0 8))) (Z := .int .u64 0) h hb)
  have YES := Lib.hid (fun (h : True ∧ cW (numI (pt v 0 8)) = v) W' (hb : Below w.heap.size w W') => chP_yes (X := .int .u64 (numI (pt v 0 8))) (Z := .int .u64 0) h hb)
  by_cases h : True ∧ cW (numI (pt v 0 8)) = v
  · have C3 : Hid (∀ W, Calls Try.prog 38 #[.int .u64 (numI (pt v 0 8)), .agg (bcells v), .func (.func 39) #[] #[]] W fun e w' => e = .returned (.tuple #[.int .u64 (numI (pt v 0 8)), .int .i64 0]) ∧ Below W.heap.size W w') := fun W => by
      have := C2.out W; unfold ChP at this; rw [if_pos h, if_pos h] at this; exact this
    have Y := Lib.hid (YES.out h)
    clear NO YES C2 h
    go_enter Try.func20, Try.ntmps20
    go_upto_region 1 with (fail)
    rw [← HW0.out]
    go_wp2_with fail
    refine (C0.out _ SV.out).mono ?_
    rintro e w1 ⟨g, rfl, hr, hb, hg⟩
    have hgw : w.heap.size < g := Nat.lt_of_lt_of_le (by have := blk_lt GA.out; omega) hg
    have R1 := Lib.hid hr
    have B1 := Lib.hid (BE.out.trans (hb.mono BE.out.size))
    have GA1 := Lib.hid ((hb.block _ (blk_lt GA.out)).trans GA.out)
    clear hr hb hg SV GA BE
    go_wp2_with fail
    refine (C1.out _ _ R1.out).mono ?_
    rintro e w2 ⟨rfl, hr, hgr⟩
    have B2 := Lib.hid (below_grown B1.out hgr (fun k e => by cases e; omega))
    have GA2 := Lib.hid (row_kept hgr GA1.out (by omega))
    clear hr hgr B1 GA1 R1
    go_wp2_with (refine wpList_load_row rfl 38 (.tmp 1) rfl w.heap.size rfl 38 (bcells v) (0, 0) _ GA2.out Try.underlying38 rfl IV.out ?_)
    refine (C3.out _).mono ?_
    rintro e w3 ⟨rfl, hb⟩
    have B3 := Lib.hid (B2.out.trans (hb.mono B2.out.size))
    clear hb
    go_wp2_with fail
    go_ret2
    exact Y.out _ B3.out
  · have C3 : Hid (∀ W, Calls Try.prog 38 #[.int .u64 (numI (pt v 0 8)), .agg (bcells v), .func (.func 39) #[] #[]] W fun e w' => e = .returned (.tuple #[.int .u64 0, .int .i64 3]) ∧ Below W.heap.size W w') := fun W => by
      have := C2.out W; unfold ChP at this; rw [if_neg h, if_neg h] at this; exact this
    have Y := Lib.hid (NO.out h)
    clear NO YES C2 h
    go_enter Try.func20, Try.ntmps20
    go_upto_region 1 with (fail)
    rw [← HW0.out]
    go_wp2_with fail
    refine (C0.out _ SV.out).mono ?_
    rintro e w1 ⟨g, rfl, hr, hb, hg⟩
    have hgw : w.heap.size < g := Nat.lt_of_lt_of_le (by have := blk_lt GA.out; omega) hg
    have R1 := Lib.hid hr
    have B1 := Lib.hid (BE.out.trans (hb.mono BE.out.size))
    have GA1 := Lib.hid ((hb.block _ (blk_lt GA.out)).trans GA.out)
    clear hr hb hg SV GA BE
    go_wp2_with fail
    refine (C1.out _ _ R1.out).mono ?_
    rintro e w2 ⟨rfl, hr, hgr⟩
    have B2 := Lib.hid (below_grown B1.out hgr (fun k e => by cases e; omega))
    have GA2 := Lib.hid (row_kept hgr GA1.out (by omega))
    clear hr hgr B1 GA1 R1
    go_wp2_with (refine wpList_load_row rfl 38 (.tmp 1) rfl w.heap.size rfl 38 (bcells v) (0, 0) _ GA2.out Try.underlying38 rfl IV.out ?_)
    refine (C3.out _).mono ?_
    rintro e w3 ⟨rfl, hb⟩
    have B3 := Lib.hid (B2.out.trans (hb.mono B2.out.size))
    clear hb
    go_wp2_with fail
    go_ret2
    exact Y.out _ B3.out
end Go.Proofs.Ytbhkhkiidaemcaa
