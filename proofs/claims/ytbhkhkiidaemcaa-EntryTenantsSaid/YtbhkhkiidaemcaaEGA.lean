/-
  Contracts of the functions that the statements of package entry go through: what was read is held against how it is written. Condition: the value is 44 bytes.
-/
import Derived.Test.YtbhkhkiidaemcaaEG
namespace Go.Proofs.Ytbhkhkiidaemcaa
open Go.RowKit
set_option maxRecDepth 100000 in
set_option maxHeartbeats 8000000 in
theorem chkVol (X Zx : Array Value) (hX : (Try.prog.info? 30).map (·.size) = some X.size) (hZ : (Try.prog.info? 30).map (·.size) = some Zx.size) (oX : X.all (·.oneCell') = true) (oZ : Zx.all (·.oneCell') = true) (zZ : ∀ w : World, (zeroValue 30).run Try.prog w = .ok (.agg Zx) w)
    (m : Prop) [Decidable m] (V v : List Int) (hV : Byt V) (hv : Byt v) (lV : V.length = 44) (lv : v.length = 44) (hc : ∀ W : World, Calls Try.prog 16 #[.agg X] W (WrP W m V)) (w : World) :
    Calls Try.prog 40 #[.agg X, .agg (bcells v), .func (.func 16) #[] #[]] w (ChP w m V v (.agg X) (.agg Zx)) := by
  have HC := Lib.hid hc
  have IX := Lib.hid hX
  have IZ := Lib.hid hZ
  have OX := Lib.hid oX
  have OZ := Lib.hid oZ
  have SX : Hid (Zx.size = X.size) := by
    show _ = _
    rw [hX] at hZ; simpa using hZ.symm
  have IV := Lib.hid (i38 lV)
  have IZ8 := Lib.hid (i38 (zs_len 44))
  have Iv := Lib.hid (i38 lv)
  have SV := Lib.hid (bcells_sz (show (zs 44).length = V.length by rw [zs_len, lV]))
  have OV := Lib.hid (one_cells V)
  have OV0 := Lib.hid (one_cells (zs 44))
  have HZ8 := z38
  have EQ := Lib.hid (eq38 V v hV hv lV lv)
  have NO1 : Hid (¬ m → ∀ W, Below w.heap.size w W → ChP w m V v (.agg X) (.agg Zx) (.returned (.tuple #[.agg Zx, .int .i64 3])) W) := fun h W hb => chP_no (fun e => h e.1) hb
  have NO2 : Hid (¬ V = v → ∀ W, Below w.heap.size w W → ChP w m V v (.agg X) (.agg Zx) (.returned (.tuple #[.agg Zx, .int .i64 3])) W) := fun h W hb => chP_no (fun e => h e.2) hb
  have YES : Hid (m → V = v → ∀ W, Below w.heap.size w W → ChP w m V v (.agg X) (.agg Zx) (.returned (.tuple #[.agg X, .int .i64 0])) W) := fun h h2 W hb => chP_yes ⟨h, h2⟩ hb
  obtain ⟨W0, hW0⟩ : ∃ W0, W0 = ((w.alloc (.cells X 30)).alloc (.cells (bcells v) 38)).alloc (.cells Zx 30) := ⟨_, rfl⟩
  have BE : Hid (Below w.heap.size w W0) := by rw [hW0]; exact (((Below.refl _ _).alloc (Nat.le_refl _) _).alloc (by simp) _).alloc (by simp <;> omega) _
  have G0 : Hid (W0.heap[w.heap.size]? = some (.cells X 30 (0, 0))) := by
    show _ = _
    rw [hW0, Below.heap_alloc _ _ _ (by simp <;> omega), Below.heap_alloc _ _ _ (by simp)]; exact heap_alloc_new w _
  have G1 : Hid (W0.heap[w.heap.size + 1]? = some (.cells (bcells v) 38 (0, 0))) := by
    show _ = _
    rw [hW0, Below.heap_alloc _ _ _ (by simp <;> omega)]; exact heap_alloc2_new w _ _
  have G2 : Hid (W0.heap[w.heap.size + 1 + 1]? = some (.cells Zx 30 (0, 0))) := by
    show _ = _
    have := heap_alloc_new ((w.alloc (.cells X 30)).alloc (.cells (bcells v) 38)) (.cells Zx 30)
    rw [hW0]
    simpa using this
  have HW0 := Lib.hid hW0
  clear hW0 hX hZ oX oZ hc hV hv lV lv
  by_cases hm : m
  · have e1 : (if m then V else zs 44) = V := if_pos hm
    have e2 : (if m then (0 : Int) else 3) = 0 := if_pos hm
    have C1 : Hid (∀ W : World, Calls Try.prog 16 #[.agg X] W fun e w' => e = .returned (.tuple #[.agg (bcells V), .int .i64 0]) ∧ Below W.heap.size W w') := fun W => by
      have := HC.out W
      unfold WrP at this
      rw [e1, e2] at this
      exact this
    have HM := Lib.hid hm
    clear e1 e2 HC hm
    generalize hCV : bcells V = CV at *
    generalize hcv : bcells v = cv at *
    generalize bcells (zs 44) = Z8 at *
    clear hCV hcv
    go_enter Try.func40, Try.ntmps40
    go_upto_region 1 with (fail)
    rw [← HW0.out]
    go_wp2_with (refine wpList_load_row rfl 30 (.tmp 3) rfl w.heap.size rfl 30 X (0, 0) _ G0.out Try.underlying30 rfl IX.out ?_)
    refine (C1.out _).mono ?_
    rintro e w1 ⟨rfl, hb⟩
    have B1 := Lib.hid (BE.out.trans (hb.mono BE.out.size))
    have Ga := Lib.hid ((hb.block _ (blk_lt G0.out)).trans G0.out)
    have Gb := Lib.hid ((hb.block _ (blk_lt G1.out)).trans G1.out)
    have Gc := Lib.hid ((hb.block _ (blk_lt G2.out)).trans G2.out)
    clear hb BE G0 G1 G2
    have GN := Lib.hid (heap_alloc_new w1 (.cells Z8 38))
    have RN := Lib.hid (alloc_setRowT w1 Z8 CV 38 _ rfl)
    have hal : Below w1.heap.size w1 (w1.alloc (.cells CV 38)) := (Below.refl _ _).alloc (Nat.le_refl _) _
    have GV := Lib.hid (heap_alloc_new w1 (.cells CV 38))
    have B2 := Lib.hid (B1.out.trans (hal.mono B1.out.size))
    have Hb := Lib.hid ((hal.block _ (blk_lt Gb.out)).trans Gb.out)
    have Ha := Lib.hid ((hal.block _ (blk_lt Ga.out)).trans Ga.out)
    have Hc := Lib.hid ((hal.block _ (blk_lt Gc.out)).trans Gc.out)
    clear hal
    by_cases hE : V = v
    · have eq : ∀ w : World, (Op.equalIn 10000 38 (.agg CV) (.agg cv)).run Try.prog w = .ok true w := fun W => by rw [EQ.out W, decide_eq_true hE]
      have HE := Lib.hid hE
      clear hE EQ
      go_upto_region 2 with (refine wpList_store_row rfl 38 (.tmp 8) (.tmp 15) rfl w1.heap.size CV rfl rfl 38 Z8 GN.out IV.out SV.out OV.out ?_)
      rw [RN.out]
      generalize w1.alloc (.cells CV 38) = W2 at *
      generalize w1.heap.size = g8 at *
      go_wp2_with (first
        | (refine wpList_load_met' rfl 38 (.tmp 8) rfl g8 rfl 38 CV (0, 0) _ GV.out Try.underlying38 ⟨_, _, rfl⟩ IV.out ?_)
        | (refine wpList_load_met' rfl 38 (.tmp 4) rfl (w.heap.size + 1) rfl 38 cv (0, 0) _ Hb.out Try.underlying38 ⟨_, _, rfl⟩ Iv.out ?_)
        | (refine wpList_load_row rfl 30 (.tmp 3) rfl w.heap.size rfl 30 X (0, 0) _ Ha.out Try.underlying30 rfl IX.out ?_)
        | (refine wpList_store_row rfl 30 (.tmp 6) (.tmp 25) rfl (w.heap.size + 1 + 1) X rfl rfl 30 Zx Hc.out IX.out SX.out OX.out ?_))
      exact bodyPost_ret (v := .tuple #[.agg X, .int .i64 0]) (results_cell_tmp Try.results40 _ _ (w.heap.size + 1 + 1) 30 _ (0, 0) _ rfl (setRow_heap _ _ _ _ _ _ Hc.out) Try.underlying30 rfl IX.out) rfl (YES.out HM.out HE.out _ (B2.out.trans (below_row (g := w.heap.size + 1 + 1) _ _ (by omega))))
    · have eq : ∀ w : World, (Op.equalIn 10000 38 (.agg CV) (.agg cv)).run Try.prog w = .ok false w := fun W => by rw [EQ.out W, decide_eq_false hE]
      have HE := Lib.hid hE
      clear hE EQ
      go_upto_region 2 with (refine wpList_store_row rfl 38 (.tmp 8) (.tmp 15) rfl w1.heap.size CV rfl rfl 38 Z8 GN.out IV.out SV.out OV.out ?_)
      rw [RN.out]
      generalize w1.alloc (.cells CV 38) = W2 at *
      generalize w1.heap.size = g8 at *
      have hal : Below W2.heap.size W2 (W2.alloc (.cells Zx 30)) := (Below.refl _ _).alloc (Nat.le_refl _) _
      have GX := Lib.hid (heap_alloc_new W2 (.cells Zx 30))
      have B3 := Lib.hid (B2.out.trans (hal.mono B2.out.size))
      have Jc := Lib.hid ((hal.block _ (blk_lt Hc.out)).trans Hc.out)
      clear hal
      go_wp2_with (first
        | (refine wpList_load_met' rfl 38 (.tmp 8) rfl g8 rfl 38 CV (0, 0) _ GV.out Try.underlying38 ⟨_, _, rfl⟩ IV.out ?_)
        | (refine wpList_load_met' rfl 38 (.tmp 4) rfl (w.heap.size + 1) rfl 38 cv (0, 0) _ Hb.out Try.underlying38 ⟨_, _, rfl⟩ Iv.out ?_)
        | (refine wpList_load_row rfl 30 (.tmp 10) rfl W2.heap.size rfl 30 Zx (0, 0) _ GX.out Try.underlying30 rfl IZ.out ?_)
        | (refine wpList_store_row rfl 30 (.tmp 6) (.tmp 24) rfl (w.heap.size + 1 + 1) Zx rfl rfl 30 Zx Jc.out IZ.out rfl OZ.out ?_))
      exact bodyPost_ret (v := .tuple #[.agg Zx, .int .i64 3]) (results_cell_tmp Try.results40 _ _ (w.heap.size + 1 + 1) 30 _ (0, 0) _ rfl (setRow_heap _ _ _ _ _ _ Jc.out) Try.underlying30 rfl IZ.out) rfl (NO2.out HE.out _ (B3.out.trans (below_row (g := w.heap.size + 1 + 1) _ _ (by omega))))
  · have e1 : (if m then V else zs 44) = zs 44 := if_neg hm
    have e2 : (if m then (0 : Int) else 3) = 3 := if_neg hm
    have C1 : Hid (∀ W : World, Calls Try.prog 16 #[.agg X] W fun e w' => e = .returned (.tuple #[.agg (bcells (zs 44)), .int .i64 3]) ∧ Below W.heap.size W w') := fun W => by
      have := HC.out W
      unfold WrP at this
      rw [e1, e2] at this
      exact this
    have HM := Lib.hid hm
    clear e1 e2 HC hm EQ
    generalize hcv : bcells v = cv at *
    generalize bcells (zs 44) = Z8 at *
    clear hcv
    go_enter Try.func40, Try.ntmps40
    go_upto_region 1 with (fail)
    rw [← HW0.out]
    go_wp2_with (refine wpList_load_row rfl 30 (.tmp 3) rfl w.heap.size rfl 30 X (0, 0) _ G0.out Try.underlying30 rfl IX.out ?_)
    refine (C1.out _).mono ?_
    rintro e w1 ⟨rfl, hb⟩
    have B1 := Lib.hid (BE.out.trans (hb.mono BE.out.size))
    have Gc := Lib.hid ((hb.block _ (blk_lt G2.out)).trans G2.out)
    clear hb BE G0 G1 G2
    have GN := Lib.hid (heap_alloc_new w1 (.cells Z8 38))
    have RN := Lib.hid (alloc_setRowT w1 Z8 Z8 38 _ rfl)
    have hal : Below w1.heap.size w1 (w1.alloc (.cells Z8 38)) := (Below.refl _ _).alloc (Nat.le_refl _) _
    have B2 := Lib.hid (B1.out.trans (hal.mono B1.out.size))
    have Hc := Lib.hid ((hal.block _ (blk_lt Gc.out)).trans Gc.out)
    clear hal
    go_upto_region 2 with (refine wpList_store_row rfl 38 (.tmp 8) (.tmp 15) rfl w1.heap.size Z8 rfl rfl 38 Z8 GN.out IZ8.out rfl OV0.out ?_)
    rw [RN.out]
    generalize w1.alloc (.cells Z8 38) = W2 at *
    generalize w1.heap.size = g8 at *
    have hal : Below W2.heap.size W2 (W2.alloc (.cells Zx 30)) := (Below.refl _ _).alloc (Nat.le_refl _) _
    have GX := Lib.hid (heap_alloc_new W2 (.cells Zx 30))
    have B3 := Lib.hid (B2.out.trans (hal.mono B2.out.size))
    have Jc := Lib.hid ((hal.block _ (blk_lt Hc.out)).trans Hc.out)
    clear hal
    go_wp2_with (first
      | (refine wpList_load_row rfl 30 (.tmp 10) rfl W2.heap.size rfl 30 Zx (0, 0) _ GX.out Try.underlying30 rfl IZ.out ?_)
      | (refine wpList_store_row rfl 30 (.tmp 6) (.tmp 24) rfl (w.heap.size + 1 + 1) Zx rfl rfl 30 Zx Jc.out IZ.out rfl OZ.out ?_))
    exact bodyPost_ret (v := .tuple #[.agg Zx, .int .i64 3]) (results_cell_tmp Try.results40 _ _ (w.heap.size + 1 + 1) 30 _ (0, 0) _ rfl (setRow_heap _ _ _ _ _ _ Jc.out) Try.underlying30 rfl IZ.out) rfl (NO1.out HM.out _ (B3.out.trans (below_row (g := w.heap.size + 1 + 1) _ _ (by omega))))
end Go.Proofs.Ytbhkhkiidaemcaa
