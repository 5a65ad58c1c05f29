/-
  The contracts of list and of the document's Words. Condition: the numbers are of 64 digits.
-/
import Derived.Test.YtabopcfhonkecaaRpK
namespace Go.Proofs.Ytabopcfhonkecaa
open Go.RowKit
/-- An append whose run is known, in a region that draws. -/
theorem step_app_run {P : Program} {ops : Array Oper} {o : Oper} {a : Act} {w : World} {K : Act → World → Prop} {Q : Exit → Act → World → Prop} {E : Prop} (hgd : o.guard = none) (d s : Operand) (T : TypeId)
    (ho : o.op = .call { callee := .builtin .append, args := #[d, s], argTypes := #[T, T] }) (hty : o.type = T) {x y v : Value} {w' : World} (hd : a.eval d = x) (hs : a.eval s = y) (hr : (Builtin.append_ #[T, T] T #[x, y]).run P w = .ok v w')
    (hK : K (a.put o.dst v) w') : if Region.wanted o (yielded ops a.tmps) = true then Oper.wp P o a w K Q else E := by
  have hw : Region.wanted o (yielded ops a.tmps) = true := by simp [Region.wanted, hgd]
  rw [if_pos hw]
  unfold Oper.wp
  simp only [execOp, ho, hty, resolve, invoke, builtin, Sem.run_bind, Sem.run_pure, Result.andThen_ok, List.map_toArray, List.map_cons, List.map_nil, hd, hs, hr]
  exact hK
theorem info3 : (Try.prog.info? 3).map (fun i => (i.zero, i.size, i.bytes)) = some (some (.int .i64 0), 1, 8) := by kernel_rfl
/-- The call's own numbers, in a block from base on. -/
def OwnI (w : World) (base : Nat) (v : Value) (ns : List Int) : Prop := w.ownsRow base 3 1 v ns.length (sc ns)
theorem OwnI.below {w w' : World} {base : Nat} {v : Value} {ns : List Int} (h : OwnI w base v ns) (hb : Below w.heap.size w w') : OwnI w' base v ns :=
  World.ownsRow.kept (row := none) h ⟨hb.os, hb.tape, hb.output, hb.size, fun k hk _ => hb.block k hk⟩ (by cases v.ownBlock <;> simp)
theorem OwnI.is {w : World} {base : Nat} {v : Value} {ns : List Int} (h : OwnI w base v ns) (hne : ns ≠ []) : IS w v ns := by
  obtain ⟨_, ⟨_, h0⟩ | ⟨g, cap, cur, e, _, hg, hn, hm, hs, ht⟩⟩ := h
  · exact absurd (List.length_eq_zero_iff.1 h0) hne
  · refine ⟨g, cap, e, blk_lt hg, fun i hi => ?_⟩
    rw [cell_row hg]
    have h1 : (sc ns)[i]? = some (.int .i64 (nth ns i)) := by simp [sc, nth, List.getD, hi]
    rw [← ht, List.getElem?_take_of_lt (by omega)] at h1
    simpa using h1
theorem ownI_of {W : World} {g base n : Nat} {ns : List Int} (hm : ns.length ≤ maxLen) (h : W.heap[g]? = some (.cells (sc ns).toArray 3 (0, 0))) (hg : base ≤ g) (hn : n = ns.length) : OwnI W base (.slice (some ⟨g, 0, none⟩) n n) ns :=
  ⟨by simp [sc], .inr ⟨g, n, (sc ns).toArray, by rw [hn], hg, h, by omega, by omega, by simp [sc, hn], List.take_of_length_le (by simp [sc])⟩⟩
theorem appI {w : World} {base g c : Nat} {v : Value} {ns ms : List Int} (h : OwnI w base v ns) (hg : w.heap[g]? = some (.cells (sc ms).toArray 3 (0, 0))) (hn : ns.length + ms.length ≤ 1000) (hbase : base ≤ w.heap.size) (hne : ns ≠ []) :
    ∃ x cap w', (Builtin.append_ #[45, 45] 45 #[v, .slice (some ⟨g, 0, none⟩) ms.length c]).run Try.prog w = .ok (.slice x (ns.length + ms.length) cap) w' ∧ OwnI w' base (.slice x (ns.length + ms.length) cap) (ns ++ ms) ∧ Below base w w' := by
  obtain ⟨i, hi, hz0, hz1, hz2⟩ := info_parts info3
  obtain ⟨v', w', hr, ho, hgr, _⟩ := run_append_own (P := Try.prog) w base 45 45 3 i _ 1 8 Try.underlying45 hi hz0 hz1 hz2 rfl (by decide) v ns.length _ h ⟨g, 0, none⟩ ms.length c (sc ms) (by simp [sc]) (fun j u' hj => by
      rw [add_plain, Nat.zero_add, cell_row hg]
      simpa using hj) (by simp [sc, Value.oneCell']) (by unfold maxLen; omega) (by omega) hbase
  have hbel : Below base w w' := (Below.refl _ _).grown hgr hbase (fun k e => (World.ownsRow.lt h k e).1)
  have ho' : OwnI w' base v' (ns ++ ms) := by
    show w'.ownsRow base 3 1 v' (ns ++ ms).length (sc (ns ++ ms))
    rw [List.length_append, show sc (ns ++ ms) = sc ns ++ sc ms by simp [sc]]
    exact ho
  rcases ho.2 with ⟨_, h0⟩ | ⟨g', cap, cur, rfl, _⟩
  · exact absurd (List.length_eq_zero_iff.1 (by omega : ns.length = 0)) hne
  · exact ⟨_, _, w', hr, ho', hbel⟩
def ListP (w : World) (L : List Int) (e : Ending) (w' : World) : Prop := ∃ v, e = .returned v ∧ IS w' v (wlp L 8) ∧ Below w.heap.size w w'
set_option maxRecDepth 100000 in
set_option maxHeartbeats 4000000 in
theorem listC {L : List Int} (hl : L.length = 19) (w : World) : Calls Try.prog 17 #[.agg (sc L).toArray] w (ListP w L) := by
  obtain ⟨w1, hw1⟩ : ∃ w1, w1 = w.alloc (.cells (sc L).toArray 41) := ⟨_, rfl⟩
  have B1 : Hid (Below w.heap.size w w1) := by show Below _ _ _; rw [hw1]; exact (Below.refl _ _).alloc (Nat.le_refl _) _
  have g1 : w1.heap[w.heap.size]? = some (.cells (sc L).toArray 41 (0, 0)) := by rw [hw1]; exact heap_alloc_new w _
  have HW1 := Lib.hid hw1
  have CE : Hid (∀ W : World, W.heap[w.heap.size]? = some (.cells (sc L).toArray 41 (0, 0)) → ∀ k, k < 19 → W.cell? ⟨w.heap.size, k, none⟩ = some (.int .i64 (nth L k))) := fun W h k hk => st_cell h k (by omega)
  have STEP := Lib.hid (wlp_succ L)
  have LEN := Lib.hid (wlp_len L)
  have G0 : Hid (wlp L 0 = [nth L 0, nth L 1, nth L 2]) := rfl
  have FIN : Hid (∀ W v, Below w.heap.size w W → OwnI W w1.heap.size v (wlp L 8) → ListP w L (.returned v) W) := fun W v hb ho => ⟨v, rfl, ho.is (by intro e; have := wlp_len L 8; rw [e] at this; simp at this), hb⟩
  obtain ⟨PP, hPP⟩ : ∃ PP, PP = ListP w L := ⟨_, rfl⟩
  rw [← hPP] at FIN ⊢
  obtain ⟨KL, hKL⟩ : ∃ KL, KL = wlp L := ⟨_, rfl⟩
  rw [← hKL] at FIN G0 STEP LEN
  obtain ⟨V, hV⟩ : ∃ V, V = nth L := ⟨_, rfl⟩
  rw [← hV] at CE STEP G0
  obtain ⟨C, hC⟩ : ∃ C, C = (sc L).toArray := ⟨_, rfl⟩
  rw [← hC] at g1 CE HW1 ⊢
  have G1 := Lib.hid g1
  have c0 := CE.out w1 g1 0 (by omega)
  have c1 := CE.out w1 g1 1 (by omega)
  have c2 := CE.out w1 g1 2 (by omega)
  clear hw1 g1 hPP hKL hV hC hl
  have gr := heap_alloc_new w1 (.cells #[.int .i64 (V 0), .int .i64 (V 1), .int .i64 (V 2)] 3)
  have hba : Below w1.heap.size w1 (w1.alloc (.cells #[.int .i64 (V 0), .int .i64 (V 1), .int .i64 (V 2)] 3)) := (Below.refl _ _).alloc (Nat.le_refl _) _
  have hZ1 : Hid (w.heap.size < w1.heap.size) := blk_lt G1.out
  have O2 : Hid (OwnI (w1.alloc (.cells #[.int .i64 (V 0), .int .i64 (V 1), .int .i64 (V 2)] 3)) w1.heap.size (.slice (some ⟨w1.heap.size, 0, none⟩) 3 3) (KL 0)) := by
    show OwnI _ _ _ _
    rw [G0.out]
    exact ownI_of (ns := [V 0, V 1, V 2]) (by show 3 ≤ maxLen; decide) gr (Nat.le_refl _) rfl
  have B2 := Lib.hid (B1.out.trans (hba.mono B1.out.size))
  have G2 := Lib.hid ((hba.block _ hZ1.out).trans G1.out)
  have L0 : Hid ((KL 0).length = 3) := LEN.out 0
  clear gr hba G1 B1
  go_enter Try.func17, Try.ntmps17
  go_upto_region 1 with (fail)
  rw [← HW1.out]
  go_upto_region 3 with (fail)
  clear c0 c1 c2
  obtain ⟨w2, hw2⟩ : ∃ w2, w2 = w1.alloc (.cells #[.int .i64 (V 0), .int .i64 (V 1), .int .i64 (V 2)] 3) := ⟨_, rfl⟩
  rw [← hw2] at O2 B2 G2 ⊢
  clear hw2 HW1
  go_loopw [3, 4] (fun v3 v4 wr => ∃ i : Nat, i ≤ 8 ∧ v4 = .int .i64 (i : Int) ∧ (∃ x c, v3 = .slice x (KL i).length c ∧ OwnI wr w1.heap.size (.slice x (KL i).length c) (KL i)) ∧ wr.heap[w.heap.size]? = some (.cells C 41 (0, 0)) ∧ Below w.heap.size w wr) (fun _ v4 _ => 8 - (intOf v4).toNat)
  case atStart => exact ⟨0, by omega, rfl, ⟨_, 3, by rw [L0.out], by rw [L0.out]; exact O2.out⟩, G2.out, B2.out⟩
  case round =>
    obtain ⟨i, hi, rfl, ⟨x, c, rfl, how⟩, hgr, hb⟩ := hrel
    have HO := Lib.hid how
    have GR := Lib.hid hgr
    have HB := Lib.hid hb
    clear how hgr hb O2 G2 B2
    by_cases hlt : i < 8
    · have HI8 := Lib.hid hlt
      have hii : (i : Int) < 8 := by omega
      have EQ2 := Lib.hid (STEP.out i)
      have LI := Lib.hid (LEN.out i)
      have CA : Hid (∀ W : World, W.heap[w.heap.size]? = some (.cells C 41 (0, 0)) → W.cell? ⟨w.heap.size, 3 + i, none⟩ = some (.int .i64 (V (3 + i)))) := fun W h => CE.out W h _ (by omega)
      have CB : Hid (∀ W : World, W.heap[w.heap.size]? = some (.cells C 41 (0, 0)) → W.cell? ⟨w.heap.size, 11 + i, none⟩ = some (.int .i64 (V (11 + i)))) := fun W h => CE.out W h _ (by omega)
      generalize V (3 + i) = va at CA EQ2
      generalize V (11 + i) = vb at CB EQ2
      obtain ⟨lk, hlk⟩ : ∃ lk, lk = (KL i).length := ⟨_, rfl⟩
      have HLK := Lib.hid hlk
      rw [← hlk]
      clear hlk
      go_upto_region 5 with (fail)
      refine wp_region_held_drew (S := fun W => Below w.heap.size w W ∧ W.heap[w.heap.size]? = some (.cells C 41 (0, 0))) (by kernel_rfl) ⟨HB.out.drew, GR.out⟩ (fun hS => ?_)
      have qO : OwnI wr.drew w1.heap.size (.slice x (KL i).length c) (KL i) := HO.out.below (Below.refl _ _).drew
      rw [← HLK.out] at qO
      clear HO GR HB
      generalize wr.drew = Ws at hS qO ⊢
      have HO := Lib.hid qO
      clear qO
      refine' wpAnyH_take (i := 0) ?h1x0k ?hsx0k ?hfx0k ?hrx0k ?hQx0k (Or.inl ⟨?hwx0k, ?hyx0k⟩) hS ?restx0k
      case h1x0k => (simp only [List.getElem?_toArray, List.getElem?_cons_zero]; rfl)
      case hsx0k => kernel_rfl
      case hfx0k => kernel_rfl
      case hrx0k => kernel_rfl
      case hQx0k => exact fun _ _ _ h => h
      case hwx0k => rfl
      case hyx0k =>
        intro W hW
        go_simp
        try with_reducible rfl
      simp only [Act.put, List.setIfInBounds_toArray, List.set_cons_succ, List.set_cons_zero]
      refine' wpAnyH_take (i := 1) ?h1x1k ?hsx1k ?hfx1k ?hrx1k ?hQx1k (Or.inl ⟨?hwx1k, ?hyx1k⟩) hS ?restx1k
      case h1x1k => (simp only [List.getElem?_toArray, List.getElem?_cons_succ, List.getElem?_cons_zero]; rfl)
      case hsx1k => kernel_rfl
      case hfx1k => kernel_rfl
      case hrx1k => kernel_rfl
      case hQx1k => exact fun _ _ _ h => h
      case hwx1k => rfl
      case hyx1k =>
        intro W hW
        go_simp
        try with_reducible rfl
      simp only [Act.put, List.setIfInBounds_toArray, List.set_cons_succ, List.set_cons_zero]
      refine' wpAnyH_take (i := 2) ?h1x2k ?hsx2k ?hfx2k ?hrx2k ?hQx2k (Or.inl ⟨?hwx2k, ?hyx2k⟩) hS ?restx2k
      case h1x2k => (simp only [List.getElem?_toArray, List.getElem?_cons_succ, List.getElem?_cons_zero]; rfl)
      case hsx2k => kernel_rfl
      case hfx2k => kernel_rfl
      case hrx2k => kernel_rfl
      case hQx2k => exact fun _ _ _ h => h
      case hwx2k => rfl
      case hyx2k =>
        intro W hW
        go_simp
        try with_reducible rfl
      simp only [Act.put, List.setIfInBounds_toArray, List.set_cons_succ, List.set_cons_zero]
      refine' wpAnyH_take (i := 5) ?h1x5k ?hsx5k ?hfx5k ?hrx5k ?hQx5k (Or.inl ⟨?hwx5k, ?hyx5k⟩) hS ?restx5k
      case h1x5k => (simp only [List.getElem?_toArray, List.getElem?_cons_succ, List.getElem?_cons_zero]; rfl)
      case hsx5k => kernel_rfl
      case hfx5k => kernel_rfl
      case hrx5k => kernel_rfl
      case hQx5k => exact fun _ _ _ h => h
      case hwx5k => rfl
      case hyx5k =>
        intro W hW
        go_simp
        try with_reducible rfl
      simp only [Act.put, List.setIfInBounds_toArray, List.set_cons_succ, List.set_cons_zero]
      refine' wpAnyH_take (i := 6) ?h1x6k ?hsx6k ?hfx6k ?hrx6k ?hQx6k (Or.inl ⟨?hwx6k, ?hyx6k⟩) hS ?restx6k
      case h1x6k => (simp only [List.getElem?_toArray, List.getElem?_cons_succ, List.getElem?_cons_zero]; rfl)
      case hsx6k => kernel_rfl
      case hfx6k => kernel_rfl
      case hrx6k => kernel_rfl
      case hQx6k => exact fun _ _ _ h => h
      case hwx6k => rfl
      case hyx6k =>
        intro W hW
        go_simp
        try with_reducible rfl
      simp only [Act.put, List.setIfInBounds_toArray, List.set_cons_succ, List.set_cons_zero]
      refine' wpAnyH_take (i := 3) ?h1x3k ?hsx3k ?hfx3k ?hrx3k ?hQx3k (Or.inl ⟨?hwx3k, ?hyx3k⟩) hS ?restx3k
      case h1x3k => (simp only [List.getElem?_toArray, List.getElem?_cons_succ, List.getElem?_cons_zero]; rfl)
      case hsx3k => kernel_rfl
      case hfx3k => kernel_rfl
      case hrx3k => kernel_rfl
      case hQx3k => exact fun _ _ _ h => h
      case hwx3k => rfl
      case hyx3k =>
        intro W hW
        go_simp
        try with_reducible rfl
      simp only [Act.put, List.setIfInBounds_toArray, List.set_cons_succ, List.set_cons_zero]
      refine' wpAnyH_take (i := 7) ?h1x7k ?hsx7k ?hfx7k ?hrx7k ?hQx7k (Or.inl ⟨?hwx7k, ?hyx7k⟩) hS ?restx7k
      case h1x7k => (simp only [List.getElem?_toArray, List.getElem?_cons_succ, List.getElem?_cons_zero]; rfl)
      case hsx7k => kernel_rfl
      case hfx7k => kernel_rfl
      case hrx7k => kernel_rfl
      case hQx7k => exact fun _ _ _ h => h
      case hwx7k => rfl
      case hyx7k =>
        intro W hW
        go_simp
        try with_reducible rfl
      simp only [Act.put, List.setIfInBounds_toArray, List.set_cons_succ, List.set_cons_zero]
      refine' wpAnyH_take (i := 4) ?h1x4k ?hsx4k ?hfx4k ?hrx4k ?hQx4k (Or.inl ⟨?hwx4k, ?hyx4k⟩) hS ?restx4k
      case h1x4k => (simp only [List.getElem?_toArray, List.getElem?_cons_succ, List.getElem?_cons_zero]; rfl)
      case hsx4k => kernel_rfl
      case hfx4k => kernel_rfl
      case hrx4k => kernel_rfl
      case hQx4k => exact fun _ _ _ h => h
      case hwx4k => rfl
      case hyx4k =>
        intro W hW
        have dd := CA.out W hW.2
        go_simp
        try with_reducible rfl
      simp only [Act.put, List.setIfInBounds_toArray, List.set_cons_succ, List.set_cons_zero]
      refine' wpAnyH_take (i := 8) ?h1x8k ?hsx8k ?hfx8k ?hrx8k ?hQx8k (Or.inl ⟨?hwx8k, ?hyx8k⟩) hS ?restx8k
      case h1x8k => (simp only [List.getElem?_toArray, List.getElem?_cons_succ, List.getElem?_cons_zero]; rfl)
      case hsx8k => kernel_rfl
      case hfx8k => kernel_rfl
      case hrx8k => kernel_rfl
      case hQx8k => exact fun _ _ _ h => h
      case hwx8k => rfl
      case hyx8k =>
        intro W hW
        have dd := CB.out W hW.2
        go_simp
        try with_reducible rfl
      simp only [Act.put, List.setIfInBounds_toArray, List.set_cons_succ, List.set_cons_zero]
      refine wpAnyH_ready (rs := [9]) (by kernel_rfl) (by simp) ?_
      refine' (AllReadyH.cons ?hoc9k (fun K hK => ?stc9k) AllReadyH.nil)
      case hoc9k => (simp only [List.getElem?_toArray, List.getElem?_cons_succ, List.getElem?_cons_zero]; rfl)
      go_simp
      have hb := (Below.refl Ws.heap.size Ws).alloc (Nat.le_refl _) (.cells #[.int .i64 va, .int .i64 vb] 3)
      refine hK.out _ _ ⟨hS.1.trans (hb.mono hS.1.size), (hb.block _ (blk_lt hS.2)).trans hS.2⟩ (fun hHeld => ?_)
      clear hK K
      try simp only [Act.put, List.setIfInBounds_toArray, List.set_cons_succ, List.set_cons_zero]
      have qGB := heap_alloc_new Ws (.cells #[.int .i64 va, .int .i64 vb] 3)
      have qO := HO.out.below hb
      have qz := hS.1.size
      clear hS HO
      have hS := hHeld
      clear hHeld hb
      generalize Ws.alloc (.cells #[.int .i64 va, .int .i64 vb] 3) = W2 at *
      generalize Ws.heap.size = gb at *
      have GB := Lib.hid qGB
      have HO := Lib.hid qO
      clear qGB qO qz
      refine wpAnyH_ready (rs := [10]) (by kernel_rfl) (by simp) ?_
      refine' (AllReadyH.cons ?hoc10kx9 (fun K hK => ?stc10kx9) AllReadyH.nil)
      case hoc10kx9 => (simp only [List.getElem?_toArray, List.getElem?_cons_succ, List.getElem?_cons_zero]; rfl)
      have how : OwnI W2 w1.heap.size (.slice x lk c) (KL i) := HO.out
      have hne : KL i ≠ [] := by intro e; have h := LI.out; rw [e] at h; have h2 : (0 : Nat) = 3 + 2 * i := h; omega
      have hlz : w1.heap.size ≤ W2.heap.size := by
        rcases how.2 with ⟨_, e2⟩ | ⟨g, cc, cu, _, e2, e3, _⟩
        · exact absurd (List.length_eq_zero_iff.1 e2) hne
        · have := blk_lt e3; omega
      obtain ⟨x4, c4, w4, hr4, ho4, hb4⟩ := appI (c := 2) how (ms := [va, vb]) GB.out (by have := LI.out; show (KL i).length + 2 ≤ 1000; have := HI8.out; omega) hlz hne
      rw [← HLK.out] at hr4 ho4
      refine step_app_run rfl (.tmp 16) (.tmp 25) 45 rfl rfl rfl rfl hr4 ?_
      have hq := (hb4.block _ hZ1.out).trans hS.2
      have hbw := hS.1.trans (hb4.mono (Nat.le_of_lt hZ1.out))
      have O4 : Hid (OwnI w4 w1.heap.size (.slice x4 (KL (i + 1)).length c4) (KL (i + 1))) := by
        show OwnI _ _ _ _
        rw [EQ2.out, List.length_append, ← HLK.out]; exact ho4
      have HV : Hid (Value.slice x4 (lk + [va, vb].length) c4 = .slice x4 (KL (i + 1)).length c4) := by show _ = _; rw [EQ2.out, List.length_append, ← HLK.out]
      refine hK.out _ _ ⟨hbw, hq⟩ (fun hHeld => ?_)
      clear hK K hr4 ho4 hb4 hq hbw hlz hne how hS
      try simp only [Act.put, List.setIfInBounds_toArray, List.set_cons_succ, List.set_cons_zero]
      have hS := hHeld
      clear hHeld
      refine' wpAnyH_take (i := 11) ?h1x11kx9x10 ?hsx11kx9x10 ?hfx11kx9x10 ?hrx11kx9x10 ?hQx11kx9x10 (Or.inl ⟨?hwx11kx9x10, ?hyx11kx9x10⟩) hS ?restx11kx9x10
      case h1x11kx9x10 => (simp only [List.getElem?_toArray, List.getElem?_cons_succ, List.getElem?_cons_zero]; rfl)
      case hsx11kx9x10 => kernel_rfl
      case hfx11kx9x10 => kernel_rfl
      case hrx11kx9x10 => kernel_rfl
      case hQx11kx9x10 => exact fun _ _ _ h => h
      case hwx11kx9x10 => rfl
      case hyx11kx9x10 =>
        intro W hW
        go_simp
        try with_reducible rfl
      simp only [Act.put, List.setIfInBounds_toArray, List.set_cons_succ, List.set_cons_zero]
      refine wpAnyH_done (by kernel_rfl) ?_ _
      go_wp2_with fail
      go_roundw
      case rel => exact ⟨i + 1, by have := HI8.out; omega, by go_num, ⟨x4, c4, HV.out, O4.out⟩, hS.2, hS.1⟩
      case measure => simp [intOf]; have := HI8.out; omega
    · have hge : ¬ (i : Int) < 8 := by omega
      obtain rfl : i = 8 := by omega
      go_wp2_with fail
      exact FIN.out _ _ HB.out HO.out
def oV (ns : List Int) : List Int := if decide (md ns = ns) = true then b2s ns else []
def WordsP (w : World) (ns : List Int) (e : Ending) (w' : World) : Prop := ∃ x cap, e = .returned (.tuple #[.slice x (oV ns).length cap, .bool (decide (md ns = ns))]) ∧ Sees w' (.slice x (oV ns).length cap) (oV ns) ∧ Below w.heap.size w w'
theorem md_len (L : List Int) : (md L).length = L.length := by simp [md]
theorem md_good {ns : List Int} (h : ∀ i, i < ns.length → 0 ≤ nth ns i ∧ nth ns i ≤ 65535) : md ns = ns :=
  ext_nth (md_len ns) fun i hi => by rw [nth_md]; have := h i (by rw [md_len] at hi; exact hi); omega
theorem md_bad {ns : List Int} {i : Nat} (hb : nth ns i < 0 ∨ 65535 < nth ns i) : md ns ≠ ns := fun e => by
  have := nth_md ns i
  rw [e] at this
  omega
set_option maxRecDepth 100000 in
set_option maxHeartbeats 4000000 in
theorem wordsC (v : Value) (ns : List Int) (w : World) (h : IS w v ns) (hm : ns.length ≤ 100) : Calls Try.prog 16 #[v] w (WordsP w ns) := by
  obtain ⟨g, c, rfl, hg, hc⟩ := h
  obtain ⟨m, hmm⟩ : ∃ m, m = ns.length := ⟨_, rfl⟩
  have CEL : Hid (∀ i, i < m → ∀ W, Below w.heap.size w W → W.cell? ⟨g, i, none⟩ = some (.int .i64 (nth ns i))) := fun i hi W hb => (hb.cell (p := ⟨g, i, none⟩) hg).trans (hc i (by omega))
  have TK : Hid (∀ i, i < m → b2s (ns.take (i + 1)) = b2s (ns.take i) ++ be 2 (nth ns i)) := fun i hi => b2s_take ns i (by omega)
  have TL : Hid (∀ i, i ≤ m → (b2s (ns.take i)).length = 2 * i) := fun i hi => by rw [b2s_len, List.length_take]; omega
  have ALL : Hid (b2s (ns.take m) = b2s ns) := by show _ = _; rw [hmm, List.take_length]
  have YES : Hid ((∀ i, i < m → 0 ≤ nth ns i ∧ nth ns i ≤ 65535) → ∀ W x c, Below w.heap.size w W → Sees W (.slice x (b2s ns).length c) (b2s ns) → WordsP w ns (.returned (.tuple #[.slice x (b2s ns).length c, .bool true])) W) := fun h W x c hb hs => by
    have e := md_good (ns := ns) (fun i hi => h i (by omega))
    unfold WordsP oV
    rw [decide_eq_true e, if_pos rfl]
    exact ⟨x, c, rfl, hs, hb⟩
  have NO : Hid (∀ i, nth ns i < 0 ∨ 65535 < nth ns i → ∀ W, Below w.heap.size w W → WordsP w ns (.returned (.tuple #[.slice none 0 0, .bool false])) W) := fun i h W hb => by
    have e := md_bad (ns := ns) h
    unfold WordsP oV
    rw [decide_eq_false e, if_neg (by simp)]
    exact ⟨none, 0, rfl, sees_nil _, hb⟩
  have hmi : (m : Int) ≤ 100 := by omega
  have HM := Lib.hid hm
  rw [← hmm] at HM ⊢
  obtain ⟨PP, hPP⟩ : ∃ PP, PP = WordsP w ns := ⟨_, rfl⟩
  rw [← hPP] at YES NO ⊢
  generalize b2s ns = L at ALL YES
  clear hg hc hmm hm hPP
  go_enter Try.func16, Try.ntmps16
  go_upto_region 3 with (fail)
  go_loopw [4, 5] (fun v4 v5 wr => ∃ i : Nat, i ≤ m ∧ v5 = .int .i64 (i : Int) ∧ (∀ j, j < i → 0 ≤ nth ns j ∧ nth ns j ≤ 65535) ∧ ∃ x c, v4 = .slice x (b2s (ns.take i)).length c ∧ Own wr w.heap.size (.slice x (b2s (ns.take i)).length c) (b2s (ns.take i)) ∧ Below w.heap.size w wr) (fun _ v5 _ => m - (intOf v5).toNat)
  case atStart => exact ⟨0, by omega, rfl, fun j hj => absurd hj (by omega), none, 0, rfl, own_nil _ _, Below.refl _ _⟩
  case round =>
    obtain ⟨i, hi, rfl, hgd, x, c1, rfl, how, hb⟩ := hrel
    have HO := Lib.hid how
    have HB := Lib.hid hb
    have GD := Lib.hid hgd
    clear how hb hgd
    by_cases hlt : i < m
    · have hii : (i : Int) < (m : Int) := by omega
      have hci := CEL.out i hlt wr HB.out
      by_cases hn : nth ns i < 0
      · have FIN := Lib.hid (NO.out i (.inl hn) wr HB.out)
        generalize nth ns i = z at hci hn
        generalize (b2s (ns.take i)).length = lb at *
        go_wp2
        exact FIN.out
      · by_cases hx : 65535 < nth ns i
        · have FIN := Lib.hid (NO.out i (.inr hx) wr HB.out)
          have hn0 : 0 ≤ nth ns i := by omega
          generalize nth ns i = z at hci hn hx hn0
          generalize (b2s (ns.take i)).length = lb at *
          go_wp2
          exact FIN.out
        · have GD2 : Hid (∀ j, j < i + 1 → 0 ≤ nth ns j ∧ nth ns j ≤ 65535) := fun j hj => by
            by_cases hj2 : j = i
            · rw [hj2]; omega
            · exact GD.out j (by omega)
          have hn0 : 0 ≤ nth ns i := by omega
          have hx0 : nth ns i ≤ 65535 := by omega
          have P := Lib.hid (octetPuts.refBytes2 (nth ns i) hn0 (by omega))
          have EQ := Lib.hid (TK.out i hlt)
          have LI := Lib.hid (TL.out i hi)
          have WU : Hid (IntKind.u64.wrap (nth ns i) = nth ns i) := by show nth ns i % 18446744073709551616 = nth ns i; omega
          generalize nth ns i = z at hci hn hx hn0 hx0 P EQ WU
          have wu := WU.out
          obtain ⟨lb, hlb⟩ : ∃ lb, lb = (b2s (ns.take i)).length := ⟨_, rfl⟩
          have HLB := Lib.hid hlb
          rw [← hlb]
          clear hlb
          go_wp2_with fail
          refine (P.out wr).mono ?_
          rintro e w2 ⟨q, cq, rfl, hs, hb⟩
          have hB := (HB.out.trans (hb.mono HB.out.size))
          obtain ⟨x3, c3, w3, hr, ho', hgr, hb'⟩ := app (HO.out.below hb) hs.sees (by rw [LI.out, be_len]; have := HM.out; omega) hB.size
          have HB2 := Lib.hid (hB.trans hb')
          have HO2 : Hid (Own w3 w.heap.size (.slice x3 (b2s (ns.take (i + 1))).length c3) (b2s (ns.take (i + 1)))) := by
            rw [EQ.out, List.length_append]; exact ho'
          have HV : Hid (Value.slice x3 (lb + (be 2 z).length) c3 = .slice x3 (b2s (ns.take (i + 1))).length c3) := by show _ = _; rw [EQ.out, List.length_append, HLB.out]
          rw [← HLB.out] at hr
          have HR := Lib.hid hr
          clear hr ho' hgr hb' hb hs hB hci P HO wu
          go_wp2_with (at_builtin; refine wpList_app rfl (.tmp 24) (.tmp 30) rfl rfl rfl rfl HR.out ?_)
          go_roundw
          case rel => exact ⟨i + 1, by omega, by go_num, GD2.out, x3, c3, HV.out, HO2.out, HB2.out⟩
          case measure => simp [intOf]; omega
    · have hge : ¬ (i : Int) < (m : Int) := by omega
      obtain rfl : i = m := by omega
      have FIN := Lib.hid (YES.out GD.out wr x c1 HB.out)
      have h1 := HO.out
      rw [ALL.out] at h1
      have FIN2 := Lib.hid (FIN.out h1.sees)
      have EL := ALL.out
      rw [EL]
      clear HO EL h1 FIN
      go_wp2_with fail
      exact FIN2.out
end Go.Proofs.Ytabopcfhonkecaa
