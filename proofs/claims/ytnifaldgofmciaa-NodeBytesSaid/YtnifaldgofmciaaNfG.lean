/-
  Contracts of the document's Same and of the statements' same. Condition: the nodes read as such, of no more than a hundred parts.
-/
import Derived.Test.YtnifaldgofmciaaNfF
namespace Go.Proofs.Ytnifaldgofmciaa
open Go.RowKit
open oc (Byt Sees Own be nth)
/-- Are two documents' nodes equal? -/
def sameD (x y : DN) : Bool := decide (x.leaf = y.leaf) && decide (x.l = y.l)
theorem part_eq {l : List (Int × List Int)} {i : Nat} (hi : i < l.length) : l[i]? = some (keyD l i, bytD l i) := by
  unfold keyD bytD
  simp [List.getD, hi]
theorem same_list {l k : List (Int × List Int)} (hl : l.length = k.length) (h : ∀ i, i < l.length → keyD l i = keyD k i ∧ bytD l i = bytD k i) : l = k :=
  List.ext_getElem? fun i => by
    by_cases hi : i < l.length
    · rw [part_eq hi, part_eq (by omega), (h i hi).1, (h i hi).2]
    · rw [List.getElem?_eq_none (by omega), List.getElem?_eq_none (by omega)]
set_option maxRecDepth 100000 in
set_option maxHeartbeats 16000000 in
theorem sameDC (O U : Array Value) (x y : DN) (w : World) (hv : DM w (.agg O) x) (hu : DM w (.agg U) y) (hm : x.l.length ≤ 100) : Calls Try.prog 19 #[.agg O, .agg U] w fun e w' => e = .returned (.bool (sameD x y)) ∧ Below w.heap.size w w' := by
  obtain ⟨V, e, hp⟩ := hv
  injection e with e
  obtain ⟨xa, ca, rfl, _, _⟩ := hp.form
  obtain ⟨V', e', hp'⟩ := hu
  injection e' with e'
  obtain ⟨xb, cb, rfl, _, _⟩ := hp'.form
  have O0 : Hid (O[0]? = some (.bool x.leaf)) := by show _ = _; rw [e]; rfl
  have O1 : Hid (O[1]? = some (.slice xa x.l.length ca)) := by show _ = _; rw [e]; rfl
  have U0 : Hid (U[0]? = some (.bool y.leaf)) := by show _ = _; rw [e']; rfl
  have U1 : Hid (U[1]? = some (.slice xb y.l.length cb)) := by show _ = _; rw [e']; rfl
  obtain ⟨W1, hW1⟩ : ∃ W1, W1 = (w.alloc (.cells O 32)).alloc (.cells U 32) := ⟨_, rfl⟩
  have b0 : Below w.heap.size w (w.alloc (.cells O 32)) := (Below.refl _ _).alloc (Nat.le_refl _) _
  have b1 : Below w.heap.size w W1 := by rw [hW1]; exact b0.alloc (by simp) _
  have G1 : Hid (W1.heap[w.heap.size]? = some (.cells O 32 (0, 0))) := by show _ = _; rw [hW1, Below.heap_alloc _ _ _ (by simp)]; exact heap_alloc_new w _
  have G2 : Hid (W1.heap[w.heap.size + 1]? = some (.cells U 32 (0, 0))) := by
    show _ = _
    rw [hW1]
    have := heap_alloc_new (w.alloc (.cells O 32)) (.cells U 32)
    simpa using this
  have PP := Lib.hid hp
  have QQ := Lib.hid hp'
  have B1 := Lib.hid b1
  have HW1 := Lib.hid hW1
  have SD : Hid (sameD x y = (decide (x.leaf = y.leaf) && decide (x.l = y.l))) := rfl
  have SL := Lib.hid (@same_list x.l y.l)
  have hL : (x.l.length : Int) ≤ 100 := by omega
  have c0 := (cell_row G1.out 0).trans O0.out
  have c1 := (cell_row G1.out 1).trans O1.out
  have d0 := (cell_row G2.out 0).trans U0.out
  have d1 := (cell_row G2.out 1).trans U1.out
  clear hp hp' e e' hW1 b0 b1
  obtain ⟨lf, hlf⟩ : ∃ lf, lf = x.leaf := ⟨_, rfl⟩
  obtain ⟨lg, hlg⟩ : ∃ lg, lg = y.leaf := ⟨_, rfl⟩
  rw [← hlf] at c0 SD
  rw [← hlg] at d0 SD
  by_cases hll : lf = lg
  · subst hll
    have hb1 : (lf != lf) = false := by simp
    rw [decide_eq_true (rfl : lf = lf), Bool.true_and] at SD
    by_cases hlen : x.l.length = y.l.length
    · obtain ⟨L, hLL⟩ : ∃ L, L = x.l.length := ⟨_, rfl⟩
      have hLY : L = y.l.length := by omega
      rw [← hLL] at O1 c1 hm hL
      rw [← hLY] at U1 d1
      have HLL := Lib.hid hLL
      have HLY := Lib.hid hLY
      have SE := Lib.hid (SL.out hlen)
      clear hlen hLL hLY hlf hlg SL
      go_enter Try.func19, Try.ntmps19
      go_upto_region 1 with (fail)
      rw [← HW1.out]
      go_upto_region 3 with (fail)
      clear c0 c1 d0 d1 hb1
      go_wp2_with fail
      refine (show Code.wp _ _ _ _ _ from ?_)
      go_loopw [5] (fun v5 wr => ∃ i : Nat, i ≤ L ∧ v5 = .int .i64 (i : Int) ∧ (∀ j, j < i → keyD x.l j = keyD y.l j ∧ bytD x.l j = bytD y.l j) ∧ Below W1.heap.size W1 wr) (fun v5 _ => L - (intOf v5).toNat)
      case atStart => exact ⟨0, by omega, rfl, fun j h => by omega, Below.refl _ _⟩
      case round =>
        obtain ⟨i, hi, rfl, hall, hb⟩ := hrel
        have HALL := Lib.hid hall
        have HB := Lib.hid hb
        have GR := Lib.hid ((hb.block _ (blk_lt G1.out)).trans G1.out)
        have GS := Lib.hid ((hb.block _ (blk_lt G2.out)).trans G2.out)
        have c1 := (cell_row GR.out 1).trans O1.out
        have BW := Lib.hid (B1.out.trans (hb.mono B1.out.size))
        clear hall hb
        by_cases hlt : i < L
        · have hii : (i : Int) < (L : Int) := by omega
          have HLT := Lib.hid hlt
          obtain ⟨b, o, u, rfl, ck, cu, su, _, _⟩ := PP.out.at i (by rw [← HLL.out]; exact hlt)
          obtain ⟨b', o', u', rfl, ck', cu', su', _, _⟩ := QQ.out.at i (by rw [← HLY.out]; exact hlt)
          have NK : Hid (keyD x.l i ≠ keyD y.l i → x.l ≠ y.l) := fun h e => h (by rw [e])
          have NB : Hid (bytD x.l i ≠ bytD y.l i → x.l ≠ y.l) := fun h e => h (by rw [e])
          have NX : Hid (keyD x.l i = keyD y.l i → bytD x.l i = bytD y.l i → ∀ j, j < i + 1 → keyD x.l j = keyD y.l j ∧ bytD x.l j = bytD y.l j) := fun h1 h2 j hj => by
            by_cases e : j < i
            · exact HALL.out j e
            · rw [show j = i by omega]; exact ⟨h1, h2⟩
          generalize keyD x.l i = k1 at ck NK NX
          generalize keyD y.l i = k2 at ck' NK NX
          generalize bytD x.l i = B1' at su NB NX
          generalize bytD y.l i = B2' at su' NB NX
          have CK0 := Lib.hid (ck.below BW.out)
          have CU0 := Lib.hid (cu.below BW.out)
          have DK0 := Lib.hid (ck'.below BW.out)
          have DU0 := Lib.hid (cu'.below BW.out)
          have SX0 := Lib.hid (su.below BW.out)
          have SY0 := Lib.hid (su'.below BW.out)
          have STE := Lib.hid (oc.str_eq B1' B2' su.1 su'.1)
          obtain ⟨ux, uc, rfl, _⟩ := su.form
          obtain ⟨vx, vc, rfl, _⟩ := su'.form
          have GR0 := GR
          have GS0 := GS
          clear hlt ck cu su ck' cu' su'
          go_upto_region 6 with (fail)
          clear c1
          by_cases hk : k1 = k2
          · subst hk
            by_cases hbb : B1' = B2'
            · subst hbb
              have NXT := Lib.hid (NX.out rfl rfl)
              generalize B1'.length = m1 at CU0 DU0 SX0 SY0
              have EQ2 : Hid (((strOfNums B1').toList != (strOfNums B1').toList) = false) := by show _ = _; simp
              have EQ3 : Hid (((strOfNums B1').toList == (strOfNums B1').toList) = true) := beq_self_eq_true _
              refine wp_region_held_drew (S := fun W => Below wr.heap.size wr W) (by kernel_rfl) ((Below.refl _ _).drew) (fun hS => ?_)
              have hb0 : Below wr.heap.size wr wr.drew := (Below.refl _ _).drew
              clear hb0 
              generalize wr.drew = Wsys at hS  ⊢
              refine' wpAnyH_take (i := 0) ?h1x0sy ?hsx0sy ?hfx0sy ?hrx0sy ?hQx0sy (Or.inl ⟨?hwx0sy, ?hyx0sy⟩) hS ?restx0sy
              case h1x0sy => (simp only [List.getElem?_toArray, List.getElem?_cons_zero]; rfl)
              case hsx0sy | hfx0sy | hrx0sy => kernel_rfl
              case hQx0sy => exact fun _ _ _ h => h
              case hwx0sy => rfl
              case hyx0sy =>
                intro W hW
                go_simp
                try with_reducible rfl
              simp only [Act.put, List.setIfInBounds_toArray, List.set_cons_succ, List.set_cons_zero]
              refine' wpAnyH_take (i := 2) ?h1x2sy ?hsx2sy ?hfx2sy ?hrx2sy ?hQx2sy (Or.inl ⟨?hwx2sy, ?hyx2sy⟩) hS ?restx2sy
              case h1x2sy => (simp only [List.getElem?_toArray, List.getElem?_cons_succ, List.getElem?_cons_zero]; rfl)
              case hsx2sy | hfx2sy | hrx2sy => kernel_rfl
              case hQx2sy => exact fun _ _ _ h => h
              case hwx2sy => rfl
              case hyx2sy =>
                intro W hW
                go_simp
                try with_reducible rfl
              simp only [Act.put, List.setIfInBounds_toArray, List.set_cons_succ, List.set_cons_zero]
              refine' wpAnyH_take (i := 6) ?h1x6sy ?hsx6sy ?hfx6sy ?hrx6sy ?hQx6sy (Or.inl ⟨?hwx6sy, ?hyx6sy⟩) hS ?restx6sy
              case h1x6sy => (simp only [List.getElem?_toArray, List.getElem?_cons_succ, List.getElem?_cons_zero]; rfl)
              case hsx6sy | hfx6sy | hrx6sy => kernel_rfl
              case hQx6sy => exact fun _ _ _ h => h
              case hwx6sy => rfl
              case hyx6sy =>
                intro W hW
                go_simp
                try with_reducible rfl
              simp only [Act.put, List.setIfInBounds_toArray, List.set_cons_succ, List.set_cons_zero]
              refine' wpAnyH_take (i := 8) ?h1x8sy ?hsx8sy ?hfx8sy ?hrx8sy ?hQx8sy (Or.inl ⟨?hwx8sy, ?hyx8sy⟩) hS ?restx8sy
              case h1x8sy => (simp only [List.getElem?_toArray, List.getElem?_cons_succ, List.getElem?_cons_zero]; rfl)
              case hsx8sy | hfx8sy | hrx8sy => kernel_rfl
              case hQx8sy => exact fun _ _ _ h => h
              case hwx8sy => rfl
              case hyx8sy =>
                intro W hW
                go_simp
                try with_reducible rfl
              simp only [Act.put, List.setIfInBounds_toArray, List.set_cons_succ, List.set_cons_zero]
              refine' wpAnyH_take (i := 1) ?h1x1sy ?hsx1sy ?hfx1sy ?hrx1sy ?hQx1sy (Or.inl ⟨?hwx1sy, ?hyx1sy⟩) hS ?restx1sy
              case h1x1sy => (simp only [List.getElem?_toArray, List.getElem?_cons_succ, List.getElem?_cons_zero]; rfl)
              case hsx1sy | hfx1sy | hrx1sy => kernel_rfl
              case hQx1sy => exact fun _ _ _ h => h
              case hwx1sy => rfl
              case hyx1sy =>
                intro W hW
                have cx := (hW.cell (p := ⟨w.heap.size, 1, none⟩) (blk_lt GR0.out)).trans ((cell_row GR0.out 1).trans O1.out)
                go_simp
                try with_reducible rfl
              simp only [Act.put, List.setIfInBounds_toArray, List.set_cons_succ, List.set_cons_zero]
              refine' wpAnyH_take (i := 7) ?h1x7sy ?hsx7sy ?hfx7sy ?hrx7sy ?hQx7sy (Or.inl ⟨?hwx7sy, ?hyx7sy⟩) hS ?restx7sy
              case h1x7sy => (simp only [List.getElem?_toArray, List.getElem?_cons_succ, List.getElem?_cons_zero]; rfl)
              case hsx7sy | hfx7sy | hrx7sy => kernel_rfl
              case hQx7sy => exact fun _ _ _ h => h
              case hwx7sy => rfl
              case hyx7sy =>
                intro W hW
                have cx := (hW.cell (p := ⟨w.heap.size + 1, 1, none⟩) (blk_lt GS0.out)).trans ((cell_row GS0.out 1).trans U1.out)
                go_simp
                try with_reducible rfl
              simp only [Act.put, List.setIfInBounds_toArray, List.set_cons_succ, List.set_cons_zero]
              refine' wpAnyH_take (i := 3) ?h1x3sy ?hsx3sy ?hfx3sy ?hrx3sy ?hQx3sy (Or.inl ⟨?hwx3sy, ?hyx3sy⟩) hS ?restx3sy
              case h1x3sy => (simp only [List.getElem?_toArray, List.getElem?_cons_succ, List.getElem?_cons_zero]; rfl)
              case hsx3sy | hfx3sy | hrx3sy => kernel_rfl
              case hQx3sy => exact fun _ _ _ h => h
              case hwx3sy => rfl
              case hyx3sy =>
                intro W hW
                go_simp
                try with_reducible rfl
              simp only [Act.put, List.setIfInBounds_toArray, List.set_cons_succ, List.set_cons_zero]
              refine' wpAnyH_take (i := 9) ?h1x9sy ?hsx9sy ?hfx9sy ?hrx9sy ?hQx9sy (Or.inl ⟨?hwx9sy, ?hyx9sy⟩) hS ?restx9sy
              case h1x9sy => (simp only [List.getElem?_toArray, List.getElem?_cons_succ, List.getElem?_cons_zero]; rfl)
              case hsx9sy | hfx9sy | hrx9sy => kernel_rfl
              case hQx9sy => exact fun _ _ _ h => h
              case hwx9sy => rfl
              case hyx9sy =>
                intro W hW
                go_simp
                try with_reducible rfl
              simp only [Act.put, List.setIfInBounds_toArray, List.set_cons_succ, List.set_cons_zero]
              refine' wpAnyH_take (i := 4) ?h1x4sy ?hsx4sy ?hfx4sy ?hrx4sy ?hQx4sy (Or.inl ⟨?hwx4sy, ?hyx4sy⟩) hS ?restx4sy
              case h1x4sy => (simp only [List.getElem?_toArray, List.getElem?_cons_succ, List.getElem?_cons_zero]; rfl)
              case hsx4sy | hfx4sy | hrx4sy => kernel_rfl
              case hQx4sy => exact fun _ _ _ h => h
              case hwx4sy => rfl
              case hyx4sy =>
                intro W hW
                go_simp
                try with_reducible rfl
              simp only [Act.put, List.setIfInBounds_toArray, List.set_cons_succ, List.set_cons_zero]
              refine' wpAnyH_take (i := 10) ?h1x10sy ?hsx10sy ?hfx10sy ?hrx10sy ?hQx10sy (Or.inl ⟨?hwx10sy, ?hyx10sy⟩) hS ?restx10sy
              case h1x10sy => (simp only [List.getElem?_toArray, List.getElem?_cons_succ, List.getElem?_cons_zero]; rfl)
              case hsx10sy | hfx10sy | hrx10sy => kernel_rfl
              case hQx10sy => exact fun _ _ _ h => h
              case hwx10sy => rfl
              case hyx10sy =>
                intro W hW
                go_simp
                try with_reducible rfl
              simp only [Act.put, List.setIfInBounds_toArray, List.set_cons_succ, List.set_cons_zero]
              refine' wpAnyH_take (i := 5) ?h1x5sy ?hsx5sy ?hfx5sy ?hrx5sy ?hQx5sy (Or.inl ⟨?hwx5sy, ?hyx5sy⟩) hS ?restx5sy
              case h1x5sy => (simp only [List.getElem?_toArray, List.getElem?_cons_succ, List.getElem?_cons_zero]; rfl)
              case hsx5sy | hfx5sy | hrx5sy => kernel_rfl
              case hQx5sy => exact fun _ _ _ h => h
              case hwx5sy => rfl
              case hyx5sy =>
                intro W hW
                have cx := (CK0.out.below hW).2
                go_simp
                try with_reducible rfl
              simp only [Act.put, List.setIfInBounds_toArray, List.set_cons_succ, List.set_cons_zero]
              refine' wpAnyH_take (i := 11) ?h1x11sy ?hsx11sy ?hfx11sy ?hrx11sy ?hQx11sy (Or.inl ⟨?hwx11sy, ?hyx11sy⟩) hS ?restx11sy
              case h1x11sy => (simp only [List.getElem?_toArray, List.getElem?_cons_succ, List.getElem?_cons_zero]; rfl)
              case hsx11sy | hfx11sy | hrx11sy => kernel_rfl
              case hQx11sy => exact fun _ _ _ h => h
              case hwx11sy => rfl
              case hyx11sy =>
                intro W hW
                have cx := (DK0.out.below hW).2
                go_simp
                try with_reducible rfl
              simp only [Act.put, List.setIfInBounds_toArray, List.set_cons_succ, List.set_cons_zero]
              refine' wpAnyH_take (i := 12) ?h1x12sy ?hsx12sy ?hfx12sy ?hrx12sy ?hQx12sy (Or.inl ⟨?hwx12sy, ?hyx12sy⟩) hS ?restx12sy
              case h1x12sy => (simp only [List.getElem?_toArray, List.getElem?_cons_succ, List.getElem?_cons_zero]; rfl)
              case hsx12sy | hfx12sy | hrx12sy => kernel_rfl
              case hQx12sy => exact fun _ _ _ h => h
              case hwx12sy => rfl
              case hyx12sy =>
                intro W hW
                go_simp
                try with_reducible rfl
              simp only [Act.put, List.setIfInBounds_toArray, List.set_cons_succ, List.set_cons_zero]
              refine' wpAnyH_take (i := 13) ?h1x13sy ?hsx13sy ?hfx13sy ?hrx13sy ?hQx13sy (Or.inl ⟨?hwx13sy, ?hyx13sy⟩) hS ?restx13sy
              case h1x13sy => (simp only [List.getElem?_toArray, List.getElem?_cons_succ, List.getElem?_cons_zero]; rfl)
              case hsx13sy | hfx13sy | hrx13sy => kernel_rfl
              case hQx13sy => exact fun _ _ _ h => h
              case hwx13sy => rfl
              case hyx13sy =>
                intro W hW
                go_simp
                try with_reducible rfl
              simp only [Act.put, List.setIfInBounds_toArray, List.set_cons_succ, List.set_cons_zero]
              refine' wpAnyH_take (i := 14) ?h1x14sy ?hsx14sy ?hfx14sy ?hrx14sy ?hQx14sy (Or.inl ⟨?hwx14sy, ?hyx14sy⟩) hS ?restx14sy
              case h1x14sy => (simp only [List.getElem?_toArray, List.getElem?_cons_succ, List.getElem?_cons_zero]; rfl)
              case hsx14sy | hfx14sy | hrx14sy => kernel_rfl
              case hQx14sy => exact fun _ _ _ h => h
              case hwx14sy => rfl
              case hyx14sy =>
                intro W hW
                go_simp
                try with_reducible rfl
              simp only [Act.put, List.setIfInBounds_toArray, List.set_cons_succ, List.set_cons_zero]
              refine' wpAnyH_take (i := 16) ?h1x16sy ?hsx16sy ?hfx16sy ?hrx16sy ?hQx16sy (Or.inl ⟨?hwx16sy, ?hyx16sy⟩) hS ?restx16sy
              case h1x16sy => (simp only [List.getElem?_toArray, List.getElem?_cons_succ, List.getElem?_cons_zero]; rfl)
              case hsx16sy | hfx16sy | hrx16sy => kernel_rfl
              case hQx16sy => exact fun _ _ _ h => h
              case hwx16sy => rfl
              case hyx16sy =>
                intro W hW
                go_simp
                try with_reducible rfl
              simp only [Act.put, List.setIfInBounds_toArray, List.set_cons_succ, List.set_cons_zero]
              refine' wpAnyH_take (i := 21) ?h1x21sy ?hsx21sy ?hfx21sy ?hrx21sy ?hQx21sy (Or.inl ⟨?hwx21sy, ?hyx21sy⟩) hS ?restx21sy
              case h1x21sy => (simp only [List.getElem?_toArray, List.getElem?_cons_succ, List.getElem?_cons_zero]; rfl)
              case hsx21sy | hfx21sy | hrx21sy => kernel_rfl
              case hQx21sy => exact fun _ _ _ h => h
              case hwx21sy => rfl
              case hyx21sy =>
                intro W hW
                go_simp
                try with_reducible rfl
              simp only [Act.put, List.setIfInBounds_toArray, List.set_cons_succ, List.set_cons_zero]
              refine' wpAnyH_take (i := 23) ?h1x23sy ?hsx23sy ?hfx23sy ?hrx23sy ?hQx23sy (Or.inl ⟨?hwx23sy, ?hyx23sy⟩) hS ?restx23sy
              case h1x23sy => (simp only [List.getElem?_toArray, List.getElem?_cons_succ, List.getElem?_cons_zero]; rfl)
              case hsx23sy | hfx23sy | hrx23sy => kernel_rfl
              case hQx23sy => exact fun _ _ _ h => h
              case hwx23sy => rfl
              case hyx23sy =>
                intro W hW
                go_simp
                try with_reducible rfl
              simp only [Act.put, List.setIfInBounds_toArray, List.set_cons_succ, List.set_cons_zero]
              refine' wpAnyH_take (i := 15) ?h1x15sy ?hsx15sy ?hfx15sy ?hrx15sy ?hQx15sy (Or.inl ⟨?hwx15sy, ?hyx15sy⟩) hS ?restx15sy
              case h1x15sy => (simp only [List.getElem?_toArray, List.getElem?_cons_succ, List.getElem?_cons_zero]; rfl)
              case hsx15sy | hfx15sy | hrx15sy => kernel_rfl
              case hQx15sy => exact fun _ _ _ h => h
              case hwx15sy => rfl
              case hyx15sy =>
                intro W hW
                have cx := (hW.cell (p := ⟨w.heap.size, 1, none⟩) (blk_lt GR0.out)).trans ((cell_row GR0.out 1).trans O1.out)
                go_simp
                try with_reducible rfl
              simp only [Act.put, List.setIfInBounds_toArray, List.set_cons_succ, List.set_cons_zero]
              refine' wpAnyH_take (i := 22) ?h1x22sy ?hsx22sy ?hfx22sy ?hrx22sy ?hQx22sy (Or.inl ⟨?hwx22sy, ?hyx22sy⟩) hS ?restx22sy
              case h1x22sy => (simp only [List.getElem?_toArray, List.getElem?_cons_succ, List.getElem?_cons_zero]; rfl)
              case hsx22sy | hfx22sy | hrx22sy => kernel_rfl
              case hQx22sy => exact fun _ _ _ h => h
              case hwx22sy => rfl
              case hyx22sy =>
                intro W hW
                have cx := (hW.cell (p := ⟨w.heap.size + 1, 1, none⟩) (blk_lt GS0.out)).trans ((cell_row GS0.out 1).trans U1.out)
                go_simp
                try with_reducible rfl
              simp only [Act.put, List.setIfInBounds_toArray, List.set_cons_succ, List.set_cons_zero]
              refine' wpAnyH_take (i := 17) ?h1x17sy ?hsx17sy ?hfx17sy ?hrx17sy ?hQx17sy (Or.inl ⟨?hwx17sy, ?hyx17sy⟩) hS ?restx17sy
              case h1x17sy => (simp only [List.getElem?_toArray, List.getElem?_cons_succ, List.getElem?_cons_zero]; rfl)
              case hsx17sy | hfx17sy | hrx17sy => kernel_rfl
              case hQx17sy => exact fun _ _ _ h => h
              case hwx17sy => rfl
              case hyx17sy =>
                intro W hW
                go_simp
                try with_reducible rfl
              simp only [Act.put, List.setIfInBounds_toArray, List.set_cons_succ, List.set_cons_zero]
              refine' wpAnyH_take (i := 24) ?h1x24sy ?hsx24sy ?hfx24sy ?hrx24sy ?hQx24sy (Or.inl ⟨?hwx24sy, ?hyx24sy⟩) hS ?restx24sy
              case h1x24sy => (simp only [List.getElem?_toArray, List.getElem?_cons_succ, List.getElem?_cons_zero]; rfl)
              case hsx24sy | hfx24sy | hrx24sy => kernel_rfl
              case hQx24sy => exact fun _ _ _ h => h
              case hwx24sy => rfl
              case hyx24sy =>
                intro W hW
                go_simp
                try with_reducible rfl
              simp only [Act.put, List.setIfInBounds_toArray, List.set_cons_succ, List.set_cons_zero]
              refine' wpAnyH_take (i := 18) ?h1x18sy ?hsx18sy ?hfx18sy ?hrx18sy ?hQx18sy (Or.inl ⟨?hwx18sy, ?hyx18sy⟩) hS ?restx18sy
              case h1x18sy => (simp only [List.getElem?_toArray, List.getElem?_cons_succ, List.getElem?_cons_zero]; rfl)
              case hsx18sy | hfx18sy | hrx18sy => kernel_rfl
              case hQx18sy => exact fun _ _ _ h => h
              case hwx18sy => rfl
              case hyx18sy =>
                intro W hW
                go_simp
                try with_reducible rfl
              simp only [Act.put, List.setIfInBounds_toArray, List.set_cons_succ, List.set_cons_zero]
              refine' wpAnyH_take (i := 25) ?h1x25sy ?hsx25sy ?hfx25sy ?hrx25sy ?hQx25sy (Or.inl ⟨?hwx25sy, ?hyx25sy⟩) hS ?restx25sy
              case h1x25sy => (simp only [List.getElem?_toArray, List.getElem?_cons_succ, List.getElem?_cons_zero]; rfl)
              case hsx25sy | hfx25sy | hrx25sy => kernel_rfl
              case hQx25sy => exact fun _ _ _ h => h
              case hwx25sy => rfl
              case hyx25sy =>
                intro W hW
                go_simp
                try with_reducible rfl
              simp only [Act.put, List.setIfInBounds_toArray, List.set_cons_succ, List.set_cons_zero]
              refine' wpAnyH_take (i := 19) ?h1x19sy ?hsx19sy ?hfx19sy ?hrx19sy ?hQx19sy (Or.inl ⟨?hwx19sy, ?hyx19sy⟩) hS ?restx19sy
              case h1x19sy => (simp only [List.getElem?_toArray, List.getElem?_cons_succ, List.getElem?_cons_zero]; rfl)
              case hsx19sy | hfx19sy | hrx19sy => kernel_rfl
              case hQx19sy => exact fun _ _ _ h => h
              case hwx19sy => rfl
              case hyx19sy =>
                intro W hW
                have cx := (CU0.out.below hW).2
                go_simp
                try with_reducible rfl
              simp only [Act.put, List.setIfInBounds_toArray, List.set_cons_succ, List.set_cons_zero]
              refine' wpAnyH_take (i := 26) ?h1x26sy ?hsx26sy ?hfx26sy ?hrx26sy ?hQx26sy (Or.inl ⟨?hwx26sy, ?hyx26sy⟩) hS ?restx26sy
              case h1x26sy => (simp only [List.getElem?_toArray, List.getElem?_cons_succ, List.getElem?_cons_zero]; rfl)
              case hsx26sy | hfx26sy | hrx26sy => kernel_rfl
              case hQx26sy => exact fun _ _ _ h => h
              case hwx26sy => rfl
              case hyx26sy =>
                intro W hW
                have cx := (DU0.out.below hW).2
                go_simp
                try with_reducible rfl
              simp only [Act.put, List.setIfInBounds_toArray, List.set_cons_succ, List.set_cons_zero]
              refine' wpAnyH_take (i := 20) ?h1x20sy ?hsx20sy ?hfx20sy ?hrx20sy ?hQx20sy (Or.inl ⟨?hwx20sy, ?hyx20sy⟩) hS ?restx20sy
              case h1x20sy => (simp only [List.getElem?_toArray, List.getElem?_cons_succ, List.getElem?_cons_zero]; rfl)
              case hsx20sy | hfx20sy | hrx20sy => kernel_rfl
              case hQx20sy => exact fun _ _ _ h => h
              case hwx20sy => rfl
              case hyx20sy =>
                intro W hW
                have s1 := (SX0.out.below hW).str
                go_simp
                try with_reducible rfl
              simp only [Act.put, List.setIfInBounds_toArray, List.set_cons_succ, List.set_cons_zero]
              refine' wpAnyH_take (i := 27) ?h1x27sy ?hsx27sy ?hfx27sy ?hrx27sy ?hQx27sy (Or.inl ⟨?hwx27sy, ?hyx27sy⟩) hS ?restx27sy
              case h1x27sy => (simp only [List.getElem?_toArray, List.getElem?_cons_succ, List.getElem?_cons_zero]; rfl)
              case hsx27sy | hfx27sy | hrx27sy => kernel_rfl
              case hQx27sy => exact fun _ _ _ h => h
              case hwx27sy => rfl
              case hyx27sy =>
                intro W hW
                have s2 := (SY0.out.below hW).str
                go_simp
                try with_reducible rfl
              simp only [Act.put, List.setIfInBounds_toArray, List.set_cons_succ, List.set_cons_zero]
              refine' wpAnyH_take (i := 28) ?h1x28sy ?hsx28sy ?hfx28sy ?hrx28sy ?hQx28sy (Or.inl ⟨?hwx28sy, ?hyx28sy⟩) hS ?restx28sy
              case h1x28sy => (simp only [List.getElem?_toArray, List.getElem?_cons_succ, List.getElem?_cons_zero]; rfl)
              case hsx28sy | hfx28sy | hrx28sy => kernel_rfl
              case hQx28sy => exact fun _ _ _ h => h
              case hwx28sy => rfl
              case hyx28sy =>
                intro W hW
                have e2 := EQ2.out
                have e3 := EQ3.out
                go_simp
                try with_reducible rfl
              simp only [Act.put, List.setIfInBounds_toArray, List.set_cons_succ, List.set_cons_zero]
              refine' wpAnyH_take (i := 29) ?h1x29sy ?hsx29sy ?hfx29sy ?hrx29sy ?hQx29sy (Or.inl ⟨?hwx29sy, ?hyx29sy⟩) hS ?restx29sy
              case h1x29sy => (simp only [List.getElem?_toArray, List.getElem?_cons_succ, List.getElem?_cons_zero]; rfl)
              case hsx29sy | hfx29sy | hrx29sy => kernel_rfl
              case hQx29sy => exact fun _ _ _ h => h
              case hwx29sy => rfl
              case hyx29sy =>
                intro W hW
                go_simp
                try with_reducible rfl
              simp only [Act.put, List.setIfInBounds_toArray, List.set_cons_succ, List.set_cons_zero]
              refine wpAnyH_done (by kernel_rfl) ?_ _
              have BE := Lib.hid (HB.out.trans (hS.mono HB.out.size))
              clear hS
              go_wp2_with fail
              go_roundw
              case rel => exact ⟨i + 1, HLT.out, by go_num, NXT.out, BE.out⟩
              case measure => simp [intOf]; have := HLT.out; omega
            · have NEL := Lib.hid (NB.out hbb)
              rw [decide_eq_false hbb] at STE
              generalize B1'.length = m1 at CU0 SX0
              generalize B2'.length = m2 at DU0 SY0
              clear hbb
              have NE2 : Hid (((strOfNums B1').toList != (strOfNums B2').toList) = true) := by show _ = _; rw [bne, STE.out]; rfl
              refine wp_region_held_drew (S := fun W => Below wr.heap.size wr W) (by kernel_rfl) ((Below.refl _ _).drew) (fun hS => ?_)
              have hb0 : Below wr.heap.size wr wr.drew := (Below.refl _ _).drew
              clear hb0 
              generalize wr.drew = Wsbs at hS  ⊢
              refine' wpAnyH_take (i := 0) ?h1x0sb ?hsx0sb ?hfx0sb ?hrx0sb ?hQx0sb (Or.inl ⟨?hwx0sb, ?hyx0sb⟩) hS ?restx0sb
              case h1x0sb => (simp only [List.getElem?_toArray, List.getElem?_cons_zero]; rfl)
              case hsx0sb | hfx0sb | hrx0sb => kernel_rfl
              case hQx0sb => exact fun _ _ _ h => h
              case hwx0sb => rfl
              case hyx0sb =>
                intro W hW
                go_simp
                try with_reducible rfl
              simp only [Act.put, List.setIfInBounds_toArray, List.set_cons_succ, List.set_cons_zero]
              refine' wpAnyH_take (i := 2) ?h1x2sb ?hsx2sb ?hfx2sb ?hrx2sb ?hQx2sb (Or.inl ⟨?hwx2sb, ?hyx2sb⟩) hS ?restx2sb
              case h1x2sb => (simp only [List.getElem?_toArray, List.getElem?_cons_succ, List.getElem?_cons_zero]; rfl)
              case hsx2sb | hfx2sb | hrx2sb => kernel_rfl
              case hQx2sb => exact fun _ _ _ h => h
              case hwx2sb => rfl
              case hyx2sb =>
                intro W hW
                go_simp
                try with_reducible rfl
              simp only [Act.put, List.setIfInBounds_toArray, List.set_cons_succ, List.set_cons_zero]
              refine' wpAnyH_take (i := 6) ?h1x6sb ?hsx6sb ?hfx6sb ?hrx6sb ?hQx6sb (Or.inl ⟨?hwx6sb, ?hyx6sb⟩) hS ?restx6sb
              case h1x6sb => (simp only [List.getElem?_toArray, List.getElem?_cons_succ, List.getElem?_cons_zero]; rfl)
              case hsx6sb | hfx6sb | hrx6sb => kernel_rfl
              case hQx6sb => exact fun _ _ _ h => h
              case hwx6sb => rfl
              case hyx6sb =>
                intro W hW
                go_simp
                try with_reducible rfl
              simp only [Act.put, List.setIfInBounds_toArray, List.set_cons_succ, List.set_cons_zero]
              refine' wpAnyH_take (i := 8) ?h1x8sb ?hsx8sb ?hfx8sb ?hrx8sb ?hQx8sb (Or.inl ⟨?hwx8sb, ?hyx8sb⟩) hS ?restx8sb
              case h1x8sb => (simp only [List.getElem?_toArray, List.getElem?_cons_succ, List.getElem?_cons_zero]; rfl)
              case hsx8sb | hfx8sb | hrx8sb => kernel_rfl
              case hQx8sb => exact fun _ _ _ h => h
              case hwx8sb => rfl
              case hyx8sb =>
                intro W hW
                go_simp
                try with_reducible rfl
              simp only [Act.put, List.setIfInBounds_toArray, List.set_cons_succ, List.set_cons_zero]
              refine' wpAnyH_take (i := 1) ?h1x1sb ?hsx1sb ?hfx1sb ?hrx1sb ?hQx1sb (Or.inl ⟨?hwx1sb, ?hyx1sb⟩) hS ?restx1sb
              case h1x1sb => (simp only [List.getElem?_toArray, List.getElem?_cons_succ, List.getElem?_cons_zero]; rfl)
              case hsx1sb | hfx1sb | hrx1sb => kernel_rfl
              case hQx1sb => exact fun _ _ _ h => h
              case hwx1sb => rfl
              case hyx1sb =>
                intro W hW
                have cx := (hW.cell (p := ⟨w.heap.size, 1, none⟩) (blk_lt GR0.out)).trans ((cell_row GR0.out 1).trans O1.out)
                go_simp
                try with_reducible rfl
              simp only [Act.put, List.setIfInBounds_toArray, List.set_cons_succ, List.set_cons_zero]
              refine' wpAnyH_take (i := 7) ?h1x7sb ?hsx7sb ?hfx7sb ?hrx7sb ?hQx7sb (Or.inl ⟨?hwx7sb, ?hyx7sb⟩) hS ?restx7sb
              case h1x7sb => (simp only [List.getElem?_toArray, List.getElem?_cons_succ, List.getElem?_cons_zero]; rfl)
              case hsx7sb | hfx7sb | hrx7sb => kernel_rfl
              case hQx7sb => exact fun _ _ _ h => h
              case hwx7sb => rfl
              case hyx7sb =>
                intro W hW
                have cx := (hW.cell (p := ⟨w.heap.size + 1, 1, none⟩) (blk_lt GS0.out)).trans ((cell_row GS0.out 1).trans U1.out)
                go_simp
                try with_reducible rfl
              simp only [Act.put, List.setIfInBounds_toArray, List.set_cons_succ, List.set_cons_zero]
              refine' wpAnyH_take (i := 3) ?h1x3sb ?hsx3sb ?hfx3sb ?hrx3sb ?hQx3sb (Or.inl ⟨?hwx3sb, ?hyx3sb⟩) hS ?restx3sb
              case h1x3sb => (simp only [List.getElem?_toArray, List.getElem?_cons_succ, List.getElem?_cons_zero]; rfl)
              case hsx3sb | hfx3sb | hrx3sb => kernel_rfl
              case hQx3sb => exact fun _ _ _ h => h
              case hwx3sb => rfl
              case hyx3sb =>
                intro W hW
                go_simp
                try with_reducible rfl
              simp only [Act.put, List.setIfInBounds_toArray, List.set_cons_succ, List.set_cons_zero]
              refine' wpAnyH_take (i := 9) ?h1x9sb ?hsx9sb ?hfx9sb ?hrx9sb ?hQx9sb (Or.inl ⟨?hwx9sb, ?hyx9sb⟩) hS ?restx9sb
              case h1x9sb => (simp only [List.getElem?_toArray, List.getElem?_cons_succ, List.getElem?_cons_zero]; rfl)
              case hsx9sb | hfx9sb | hrx9sb => kernel_rfl
              case hQx9sb => exact fun _ _ _ h => h
              case hwx9sb => rfl
              case hyx9sb =>
                intro W hW
                go_simp
                try with_reducible rfl
              simp only [Act.put, List.setIfInBounds_toArray, List.set_cons_succ, List.set_cons_zero]
              refine' wpAnyH_take (i := 4) ?h1x4sb ?hsx4sb ?hfx4sb ?hrx4sb ?hQx4sb (Or.inl ⟨?hwx4sb, ?hyx4sb⟩) hS ?restx4sb
              case h1x4sb => (simp only [List.getElem?_toArray, List.getElem?_cons_succ, List.getElem?_cons_zero]; rfl)
              case hsx4sb | hfx4sb | hrx4sb => kernel_rfl
              case hQx4sb => exact fun _ _ _ h => h
              case hwx4sb => rfl
              case hyx4sb =>
                intro W hW
                go_simp
                try with_reducible rfl
              simp only [Act.put, List.setIfInBounds_toArray, List.set_cons_succ, List.set_cons_zero]
              refine' wpAnyH_take (i := 10) ?h1x10sb ?hsx10sb ?hfx10sb ?hrx10sb ?hQx10sb (Or.inl ⟨?hwx10sb, ?hyx10sb⟩) hS ?restx10sb
              case h1x10sb => (simp only [List.getElem?_toArray, List.getElem?_cons_succ, List.getElem?_cons_zero]; rfl)
              case hsx10sb | hfx10sb | hrx10sb => kernel_rfl
              case hQx10sb => exact fun _ _ _ h => h
              case hwx10sb => rfl
              case hyx10sb =>
                intro W hW
                go_simp
                try with_reducible rfl
              simp only [Act.put, List.setIfInBounds_toArray, List.set_cons_succ, List.set_cons_zero]
              refine' wpAnyH_take (i := 5) ?h1x5sb ?hsx5sb ?hfx5sb ?hrx5sb ?hQx5sb (Or.inl ⟨?hwx5sb, ?hyx5sb⟩) hS ?restx5sb
              case h1x5sb => (simp only [List.getElem?_toArray, List.getElem?_cons_succ, List.getElem?_cons_zero]; rfl)
              case hsx5sb | hfx5sb | hrx5sb => kernel_rfl
              case hQx5sb => exact fun _ _ _ h => h
              case hwx5sb => rfl
              case hyx5sb =>
                intro W hW
                have cx := (CK0.out.below hW).2
                go_simp
                try with_reducible rfl
              simp only [Act.put, List.setIfInBounds_toArray, List.set_cons_succ, List.set_cons_zero]
              refine' wpAnyH_take (i := 11) ?h1x11sb ?hsx11sb ?hfx11sb ?hrx11sb ?hQx11sb (Or.inl ⟨?hwx11sb, ?hyx11sb⟩) hS ?restx11sb
              case h1x11sb => (simp only [List.getElem?_toArray, List.getElem?_cons_succ, List.getElem?_cons_zero]; rfl)
              case hsx11sb | hfx11sb | hrx11sb => kernel_rfl
              case hQx11sb => exact fun _ _ _ h => h
              case hwx11sb => rfl
              case hyx11sb =>
                intro W hW
                have cx := (DK0.out.below hW).2
                go_simp
                try with_reducible rfl
              simp only [Act.put, List.setIfInBounds_toArray, List.set_cons_succ, List.set_cons_zero]
              refine' wpAnyH_take (i := 12) ?h1x12sb ?hsx12sb ?hfx12sb ?hrx12sb ?hQx12sb (Or.inl ⟨?hwx12sb, ?hyx12sb⟩) hS ?restx12sb
              case h1x12sb => (simp only [List.getElem?_toArray, List.getElem?_cons_succ, List.getElem?_cons_zero]; rfl)
              case hsx12sb | hfx12sb | hrx12sb => kernel_rfl
              case hQx12sb => exact fun _ _ _ h => h
              case hwx12sb => rfl
              case hyx12sb =>
                intro W hW
                go_simp
                try with_reducible rfl
              simp only [Act.put, List.setIfInBounds_toArray, List.set_cons_succ, List.set_cons_zero]
              refine' wpAnyH_take (i := 13) ?h1x13sb ?hsx13sb ?hfx13sb ?hrx13sb ?hQx13sb (Or.inl ⟨?hwx13sb, ?hyx13sb⟩) hS ?restx13sb
              case h1x13sb => (simp only [List.getElem?_toArray, List.getElem?_cons_succ, List.getElem?_cons_zero]; rfl)
              case hsx13sb | hfx13sb | hrx13sb => kernel_rfl
              case hQx13sb => exact fun _ _ _ h => h
              case hwx13sb => rfl
              case hyx13sb =>
                intro W hW
                go_simp
                try with_reducible rfl
              simp only [Act.put, List.setIfInBounds_toArray, List.set_cons_succ, List.set_cons_zero]
              refine' wpAnyH_take (i := 14) ?h1x14sb ?hsx14sb ?hfx14sb ?hrx14sb ?hQx14sb (Or.inl ⟨?hwx14sb, ?hyx14sb⟩) hS ?restx14sb
              case h1x14sb => (simp only [List.getElem?_toArray, List.getElem?_cons_succ, List.getElem?_cons_zero]; rfl)
              case hsx14sb | hfx14sb | hrx14sb => kernel_rfl
              case hQx14sb => exact fun _ _ _ h => h
              case hwx14sb => rfl
              case hyx14sb =>
                intro W hW
                go_simp
                try with_reducible rfl
              simp only [Act.put, List.setIfInBounds_toArray, List.set_cons_succ, List.set_cons_zero]
              refine' wpAnyH_take (i := 16) ?h1x16sb ?hsx16sb ?hfx16sb ?hrx16sb ?hQx16sb (Or.inl ⟨?hwx16sb, ?hyx16sb⟩) hS ?restx16sb
              case h1x16sb => (simp only [List.getElem?_toArray, List.getElem?_cons_succ, List.getElem?_cons_zero]; rfl)
              case hsx16sb | hfx16sb | hrx16sb => kernel_rfl
              case hQx16sb => exact fun _ _ _ h => h
              case hwx16sb => rfl
              case hyx16sb =>
                intro W hW
                go_simp
                try with_reducible rfl
              simp only [Act.put, List.setIfInBounds_toArray, List.set_cons_succ, List.set_cons_zero]
              refine' wpAnyH_take (i := 21) ?h1x21sb ?hsx21sb ?hfx21sb ?hrx21sb ?hQx21sb (Or.inl ⟨?hwx21sb, ?hyx21sb⟩) hS ?restx21sb
              case h1x21sb => (simp only [List.getElem?_toArray, List.getElem?_cons_succ, List.getElem?_cons_zero]; rfl)
              case hsx21sb | hfx21sb | hrx21sb => kernel_rfl
              case hQx21sb => exact fun _ _ _ h => h
              case hwx21sb => rfl
              case hyx21sb =>
                intro W hW
                go_simp
                try with_reducible rfl
              simp only [Act.put, List.setIfInBounds_toArray, List.set_cons_succ, List.set_cons_zero]
              refine' wpAnyH_take (i := 23) ?h1x23sb ?hsx23sb ?hfx23sb ?hrx23sb ?hQx23sb (Or.inl ⟨?hwx23sb, ?hyx23sb⟩) hS ?restx23sb
              case h1x23sb => (simp only [List.getElem?_toArray, List.getElem?_cons_succ, List.getElem?_cons_zero]; rfl)
              case hsx23sb | hfx23sb | hrx23sb => kernel_rfl
              case hQx23sb => exact fun _ _ _ h => h
              case hwx23sb => rfl
              case hyx23sb =>
                intro W hW
                go_simp
                try with_reducible rfl
              simp only [Act.put, List.setIfInBounds_toArray, List.set_cons_succ, List.set_cons_zero]
              refine' wpAnyH_take (i := 15) ?h1x15sb ?hsx15sb ?hfx15sb ?hrx15sb ?hQx15sb (Or.inl ⟨?hwx15sb, ?hyx15sb⟩) hS ?restx15sb
              case h1x15sb => (simp only [List.getElem?_toArray, List.getElem?_cons_succ, List.getElem?_cons_zero]; rfl)
              case hsx15sb | hfx15sb | hrx15sb => kernel_rfl
              case hQx15sb => exact fun _ _ _ h => h
              case hwx15sb => rfl
              case hyx15sb =>
                intro W hW
                have cx := (hW.cell (p := ⟨w.heap.size, 1, none⟩) (blk_lt GR0.out)).trans ((cell_row GR0.out 1).trans O1.out)
                go_simp
                try with_reducible rfl
              simp only [Act.put, List.setIfInBounds_toArray, List.set_cons_succ, List.set_cons_zero]
              refine' wpAnyH_take (i := 22) ?h1x22sb ?hsx22sb ?hfx22sb ?hrx22sb ?hQx22sb (Or.inl ⟨?hwx22sb, ?hyx22sb⟩) hS ?restx22sb
              case h1x22sb => (simp only [List.getElem?_toArray, List.getElem?_cons_succ, List.getElem?_cons_zero]; rfl)
              case hsx22sb | hfx22sb | hrx22sb => kernel_rfl
              case hQx22sb => exact fun _ _ _ h => h
              case hwx22sb => rfl
              case hyx22sb =>
                intro W hW
                have cx := (hW.cell (p := ⟨w.heap.size + 1, 1, none⟩) (blk_lt GS0.out)).trans ((cell_row GS0.out 1).trans U1.out)
                go_simp
                try with_reducible rfl
              simp only [Act.put, List.setIfInBounds_toArray, List.set_cons_succ, List.set_cons_zero]
              refine' wpAnyH_take (i := 17) ?h1x17sb ?hsx17sb ?hfx17sb ?hrx17sb ?hQx17sb (Or.inl ⟨?hwx17sb, ?hyx17sb⟩) hS ?restx17sb
              case h1x17sb => (simp only [List.getElem?_toArray, List.getElem?_cons_succ, List.getElem?_cons_zero]; rfl)
              case hsx17sb | hfx17sb | hrx17sb => kernel_rfl
              case hQx17sb => exact fun _ _ _ h => h
              case hwx17sb => rfl
              case hyx17sb =>
                intro W hW
                go_simp
                try with_reducible rfl
              simp only [Act.put, List.setIfInBounds_toArray, List.set_cons_succ, List.set_cons_zero]
              refine' wpAnyH_take (i := 24) ?h1x24sb ?hsx24sb ?hfx24sb ?hrx24sb ?hQx24sb (Or.inl ⟨?hwx24sb, ?hyx24sb⟩) hS ?restx24sb
              case h1x24sb => (simp only [List.getElem?_toArray, List.getElem?_cons_succ, List.getElem?_cons_zero]; rfl)
              case hsx24sb | hfx24sb | hrx24sb => kernel_rfl
              case hQx24sb => exact fun _ _ _ h => h
              case hwx24sb => rfl
              case hyx24sb =>
                intro W hW
                go_simp
                try with_reducible rfl
              simp only [Act.put, List.setIfInBounds_toArray, List.set_cons_succ, List.set_cons_zero]
              refine' wpAnyH_take (i := 18) ?h1x18sb ?hsx18sb ?hfx18sb ?hrx18sb ?hQx18sb (Or.inl ⟨?hwx18sb, ?hyx18sb⟩) hS ?restx18sb
              case h1x18sb => (simp only [List.getElem?_toArray, List.getElem?_cons_succ, List.getElem?_cons_zero]; rfl)
              case hsx18sb | hfx18sb | hrx18sb => kernel_rfl
              case hQx18sb => exact fun _ _ _ h => h
              case hwx18sb => rfl
              case hyx18sb =>
                intro W hW
                go_simp
                try with_reducible rfl
              simp only [Act.put, List.setIfInBounds_toArray, List.set_cons_succ, List.set_cons_zero]
              refine' wpAnyH_take (i := 25) ?h1x25sb ?hsx25sb ?hfx25sb ?hrx25sb ?hQx25sb (Or.inl ⟨?hwx25sb, ?hyx25sb⟩) hS ?restx25sb
              case h1x25sb => (simp only [List.getElem?_toArray, List.getElem?_cons_succ, List.getElem?_cons_zero]; rfl)
              case hsx25sb | hfx25sb | hrx25sb => kernel_rfl
              case hQx25sb => exact fun _ _ _ h => h
              case hwx25sb => rfl
              case hyx25sb =>
                intro W hW
                go_simp
                try with_reducible rfl
              simp only [Act.put, List.setIfInBounds_toArray, List.set_cons_succ, List.set_cons_zero]
              refine' wpAnyH_take (i := 19) ?h1x19sb ?hsx19sb ?hfx19sb ?hrx19sb ?hQx19sb (Or.inl ⟨?hwx19sb, ?hyx19sb⟩) hS ?restx19sb
              case h1x19sb => (simp only [List.getElem?_toArray, List.getElem?_cons_succ, List.getElem?_cons_zero]; rfl)
              case hsx19sb | hfx19sb | hrx19sb => kernel_rfl
              case hQx19sb => exact fun _ _ _ h => h
              case hwx19sb => rfl
              case hyx19sb =>
                intro W hW
                have cx := (CU0.out.below hW).2
                go_simp
                try with_reducible rfl
              simp only [Act.put, List.setIfInBounds_toArray, List.set_cons_succ, List.set_cons_zero]
              refine' wpAnyH_take (i := 26) ?h1x26sb ?hsx26sb ?hfx26sb ?hrx26sb ?hQx26sb (Or.inl ⟨?hwx26sb, ?hyx26sb⟩) hS ?restx26sb
              case h1x26sb => (simp only [List.getElem?_toArray, List.getElem?_cons_succ, List.getElem?_cons_zero]; rfl)
              case hsx26sb | hfx26sb | hrx26sb => kernel_rfl
              case hQx26sb => exact fun _ _ _ h => h
              case hwx26sb => rfl
              case hyx26sb =>
                intro W hW
                have cx := (DU0.out.below hW).2
                go_simp
                try with_reducible rfl
              simp only [Act.put, List.setIfInBounds_toArray, List.set_cons_succ, List.set_cons_zero]
              refine' wpAnyH_take (i := 20) ?h1x20sb ?hsx20sb ?hfx20sb ?hrx20sb ?hQx20sb (Or.inl ⟨?hwx20sb, ?hyx20sb⟩) hS ?restx20sb
              case h1x20sb => (simp only [List.getElem?_toArray, List.getElem?_cons_succ, List.getElem?_cons_zero]; rfl)
              case hsx20sb | hfx20sb | hrx20sb => kernel_rfl
              case hQx20sb => exact fun _ _ _ h => h
              case hwx20sb => rfl
              case hyx20sb =>
                intro W hW
                have s1 := (SX0.out.below hW).str
                go_simp
                try with_reducible rfl
              simp only [Act.put, List.setIfInBounds_toArray, List.set_cons_succ, List.set_cons_zero]
              refine' wpAnyH_take (i := 27) ?h1x27sb ?hsx27sb ?hfx27sb ?hrx27sb ?hQx27sb (Or.inl ⟨?hwx27sb, ?hyx27sb⟩) hS ?restx27sb
              case h1x27sb => (simp only [List.getElem?_toArray, List.getElem?_cons_succ, List.getElem?_cons_zero]; rfl)
              case hsx27sb | hfx27sb | hrx27sb => kernel_rfl
              case hQx27sb => exact fun _ _ _ h => h
              case hwx27sb => rfl
              case hyx27sb =>
                intro W hW
                have s2 := (SY0.out.below hW).str
                go_simp
                try with_reducible rfl
              simp only [Act.put, List.setIfInBounds_toArray, List.set_cons_succ, List.set_cons_zero]
              refine' wpAnyH_take (i := 28) ?h1x28sb ?hsx28sb ?hfx28sb ?hrx28sb ?hQx28sb (Or.inl ⟨?hwx28sb, ?hyx28sb⟩) hS ?restx28sb
              case h1x28sb => (simp only [List.getElem?_toArray, List.getElem?_cons_succ, List.getElem?_cons_zero]; rfl)
              case hsx28sb | hfx28sb | hrx28sb => kernel_rfl
              case hQx28sb => exact fun _ _ _ h => h
              case hwx28sb => rfl
              case hyx28sb =>
                intro W hW
                have e2 := NE2.out
                have e3 := STE.out
                go_simp
                try with_reducible rfl
              simp only [Act.put, List.setIfInBounds_toArray, List.set_cons_succ, List.set_cons_zero]
              refine' wpAnyH_take (i := 29) ?h1x29sb ?hsx29sb ?hfx29sb ?hrx29sb ?hQx29sb (Or.inl ⟨?hwx29sb, ?hyx29sb⟩) hS ?restx29sb
              case h1x29sb => (simp only [List.getElem?_toArray, List.getElem?_cons_succ, List.getElem?_cons_zero]; rfl)
              case hsx29sb | hfx29sb | hrx29sb => kernel_rfl
              case hQx29sb => exact fun _ _ _ h => h
              case hwx29sb => rfl
              case hyx29sb =>
                intro W hW
                go_simp
                try with_reducible rfl
              simp only [Act.put, List.setIfInBounds_toArray, List.set_cons_succ, List.set_cons_zero]
              refine wpAnyH_done (by kernel_rfl) ?_ _
              have BE := Lib.hid (B1.out.trans ((HB.out.trans (hS.mono HB.out.size)).mono B1.out.size))
              have RR : Hid (sameD x y = false) := by show _ = _; rw [SD.out]; exact decide_eq_false NEL.out
              clear hS
              go_wp2_with fail
              go_ret
              exact ⟨by rw [RR.out]; rfl, BE.out⟩
          · have NEL := Lib.hid (NK.out hk)
            have hne : (k1 != k2) = true := by simpa using hk
            refine wp_region_held_drew (S := fun W => Below wr.heap.size wr W) (by kernel_rfl) ((Below.refl _ _).drew) (fun hS => ?_)
            have hb0 : Below wr.heap.size wr wr.drew := (Below.refl _ _).drew
            clear hb0 
            generalize wr.drew = Wsks at hS  ⊢
            refine' wpAnyH_take (i := 0) ?h1x0sk ?hsx0sk ?hfx0sk ?hrx0sk ?hQx0sk (Or.inl ⟨?hwx0sk, ?hyx0sk⟩) hS ?restx0sk
            case h1x0sk => (simp only [List.getElem?_toArray, List.getElem?_cons_zero]; rfl)
            case hsx0sk | hfx0sk | hrx0sk => kernel_rfl
            case hQx0sk => exact fun _ _ _ h => h
            case hwx0sk => rfl
            case hyx0sk =>
              intro W hW
              go_simp
              try with_reducible rfl
            simp only [Act.put, List.setIfInBounds_toArray, List.set_cons_succ, List.set_cons_zero]
            refine' wpAnyH_take (i := 2) ?h1x2sk ?hsx2sk ?hfx2sk ?hrx2sk ?hQx2sk (Or.inl ⟨?hwx2sk, ?hyx2sk⟩) hS ?restx2sk
            case h1x2sk => (simp only [List.getElem?_toArray, List.getElem?_cons_succ, List.getElem?_cons_zero]; rfl)
            case hsx2sk | hfx2sk | hrx2sk => kernel_rfl
            case hQx2sk => exact fun _ _ _ h => h
            case hwx2sk => rfl
            case hyx2sk =>
              intro W hW
              go_simp
              try with_reducible rfl
            simp only [Act.put, List.setIfInBounds_toArray, List.set_cons_succ, List.set_cons_zero]
            refine' wpAnyH_take (i := 6) ?h1x6sk ?hsx6sk ?hfx6sk ?hrx6sk ?hQx6sk (Or.inl ⟨?hwx6sk, ?hyx6sk⟩) hS ?restx6sk
            case h1x6sk => (simp only [List.getElem?_toArray, List.getElem?_cons_succ, List.getElem?_cons_zero]; rfl)
            case hsx6sk | hfx6sk | hrx6sk => kernel_rfl
            case hQx6sk => exact fun _ _ _ h => h
            case hwx6sk => rfl
            case hyx6sk =>
              intro W hW
              go_simp
              try with_reducible rfl
            simp only [Act.put, List.setIfInBounds_toArray, List.set_cons_succ, List.set_cons_zero]
            refine' wpAnyH_take (i := 8) ?h1x8sk ?hsx8sk ?hfx8sk ?hrx8sk ?hQx8sk (Or.inl ⟨?hwx8sk, ?hyx8sk⟩) hS ?restx8sk
            case h1x8sk => (simp only [List.getElem?_toArray, List.getElem?_cons_succ, List.getElem?_cons_zero]; rfl)
            case hsx8sk | hfx8sk | hrx8sk => kernel_rfl
            case hQx8sk => exact fun _ _ _ h => h
            case hwx8sk => rfl
            case hyx8sk =>
              intro W hW
              go_simp
              try with_reducible rfl
            simp only [Act.put, List.setIfInBounds_toArray, List.set_cons_succ, List.set_cons_zero]
            refine' wpAnyH_take (i := 1) ?h1x1sk ?hsx1sk ?hfx1sk ?hrx1sk ?hQx1sk (Or.inl ⟨?hwx1sk, ?hyx1sk⟩) hS ?restx1sk
            case h1x1sk => (simp only [List.getElem?_toArray, List.getElem?_cons_succ, List.getElem?_cons_zero]; rfl)
            case hsx1sk | hfx1sk | hrx1sk => kernel_rfl
            case hQx1sk => exact fun _ _ _ h => h
            case hwx1sk => rfl
            case hyx1sk =>
              intro W hW
              have cx := (hW.cell (p := ⟨w.heap.size, 1, none⟩) (blk_lt GR0.out)).trans ((cell_row GR0.out 1).trans O1.out)
              go_simp
              try with_reducible rfl
            simp only [Act.put, List.setIfInBounds_toArray, List.set_cons_succ, List.set_cons_zero]
            refine' wpAnyH_take (i := 7) ?h1x7sk ?hsx7sk ?hfx7sk ?hrx7sk ?hQx7sk (Or.inl ⟨?hwx7sk, ?hyx7sk⟩) hS ?restx7sk
            case h1x7sk => (simp only [List.getElem?_toArray, List.getElem?_cons_succ, List.getElem?_cons_zero]; rfl)
            case hsx7sk | hfx7sk | hrx7sk => kernel_rfl
            case hQx7sk => exact fun _ _ _ h => h
            case hwx7sk => rfl
            case hyx7sk =>
              intro W hW
              have cx := (hW.cell (p := ⟨w.heap.size + 1, 1, none⟩) (blk_lt GS0.out)).trans ((cell_row GS0.out 1).trans U1.out)
              go_simp
              try with_reducible rfl
            simp only [Act.put, List.setIfInBounds_toArray, List.set_cons_succ, List.set_cons_zero]
            refine' wpAnyH_take (i := 3) ?h1x3sk ?hsx3sk ?hfx3sk ?hrx3sk ?hQx3sk (Or.inl ⟨?hwx3sk, ?hyx3sk⟩) hS ?restx3sk
            case h1x3sk => (simp only [List.getElem?_toArray, List.getElem?_cons_succ, List.getElem?_cons_zero]; rfl)
            case hsx3sk | hfx3sk | hrx3sk => kernel_rfl
            case hQx3sk => exact fun _ _ _ h => h
            case hwx3sk => rfl
            case hyx3sk =>
              intro W hW
              go_simp
              try with_reducible rfl
            simp only [Act.put, List.setIfInBounds_toArray, List.set_cons_succ, List.set_cons_zero]
            refine' wpAnyH_take (i := 9) ?h1x9sk ?hsx9sk ?hfx9sk ?hrx9sk ?hQx9sk (Or.inl ⟨?hwx9sk, ?hyx9sk⟩) hS ?restx9sk
            case h1x9sk => (simp only [List.getElem?_toArray, List.getElem?_cons_succ, List.getElem?_cons_zero]; rfl)
            case hsx9sk | hfx9sk | hrx9sk => kernel_rfl
            case hQx9sk => exact fun _ _ _ h => h
            case hwx9sk => rfl
            case hyx9sk =>
              intro W hW
              go_simp
              try with_reducible rfl
            simp only [Act.put, List.setIfInBounds_toArray, List.set_cons_succ, List.set_cons_zero]
            refine' wpAnyH_take (i := 4) ?h1x4sk ?hsx4sk ?hfx4sk ?hrx4sk ?hQx4sk (Or.inl ⟨?hwx4sk, ?hyx4sk⟩) hS ?restx4sk
            case h1x4sk => (simp only [List.getElem?_toArray, List.getElem?_cons_succ, List.getElem?_cons_zero]; rfl)
            case hsx4sk | hfx4sk | hrx4sk => kernel_rfl
            case hQx4sk => exact fun _ _ _ h => h
            case hwx4sk => rfl
            case hyx4sk =>
              intro W hW
              go_simp
              try with_reducible rfl
            simp only [Act.put, List.setIfInBounds_toArray, List.set_cons_succ, List.set_cons_zero]
            refine' wpAnyH_take (i := 10) ?h1x10sk ?hsx10sk ?hfx10sk ?hrx10sk ?hQx10sk (Or.inl ⟨?hwx10sk, ?hyx10sk⟩) hS ?restx10sk
            case h1x10sk => (simp only [List.getElem?_toArray, List.getElem?_cons_succ, List.getElem?_cons_zero]; rfl)
            case hsx10sk | hfx10sk | hrx10sk => kernel_rfl
            case hQx10sk => exact fun _ _ _ h => h
            case hwx10sk => rfl
            case hyx10sk =>
              intro W hW
              go_simp
              try with_reducible rfl
            simp only [Act.put, List.setIfInBounds_toArray, List.set_cons_succ, List.set_cons_zero]
            refine' wpAnyH_take (i := 5) ?h1x5sk ?hsx5sk ?hfx5sk ?hrx5sk ?hQx5sk (Or.inl ⟨?hwx5sk, ?hyx5sk⟩) hS ?restx5sk
            case h1x5sk => (simp only [List.getElem?_toArray, List.getElem?_cons_succ, List.getElem?_cons_zero]; rfl)
            case hsx5sk | hfx5sk | hrx5sk => kernel_rfl
            case hQx5sk => exact fun _ _ _ h => h
            case hwx5sk => rfl
            case hyx5sk =>
              intro W hW
              have cx := (CK0.out.below hW).2
              go_simp
              try with_reducible rfl
            simp only [Act.put, List.setIfInBounds_toArray, List.set_cons_succ, List.set_cons_zero]
            refine' wpAnyH_take (i := 11) ?h1x11sk ?hsx11sk ?hfx11sk ?hrx11sk ?hQx11sk (Or.inl ⟨?hwx11sk, ?hyx11sk⟩) hS ?restx11sk
            case h1x11sk => (simp only [List.getElem?_toArray, List.getElem?_cons_succ, List.getElem?_cons_zero]; rfl)
            case hsx11sk | hfx11sk | hrx11sk => kernel_rfl
            case hQx11sk => exact fun _ _ _ h => h
            case hwx11sk => rfl
            case hyx11sk =>
              intro W hW
              have cx := (DK0.out.below hW).2
              go_simp
              try with_reducible rfl
            simp only [Act.put, List.setIfInBounds_toArray, List.set_cons_succ, List.set_cons_zero]
            refine' wpAnyH_take (i := 12) ?h1x12sk ?hsx12sk ?hfx12sk ?hrx12sk ?hQx12sk (Or.inl ⟨?hwx12sk, ?hyx12sk⟩) hS ?restx12sk
            case h1x12sk => (simp only [List.getElem?_toArray, List.getElem?_cons_succ, List.getElem?_cons_zero]; rfl)
            case hsx12sk | hfx12sk | hrx12sk => kernel_rfl
            case hQx12sk => exact fun _ _ _ h => h
            case hwx12sk => rfl
            case hyx12sk =>
              intro W hW
              go_simp
              try with_reducible rfl
            simp only [Act.put, List.setIfInBounds_toArray, List.set_cons_succ, List.set_cons_zero]
            refine' wpAnyH_take (i := 13) ?h1x13sk ?hsx13sk ?hfx13sk ?hrx13sk ?hQx13sk (Or.inl ⟨?hwx13sk, ?hyx13sk⟩) hS ?restx13sk
            case h1x13sk => (simp only [List.getElem?_toArray, List.getElem?_cons_succ, List.getElem?_cons_zero]; rfl)
            case hsx13sk | hfx13sk | hrx13sk => kernel_rfl
            case hQx13sk => exact fun _ _ _ h => h
            case hwx13sk => rfl
            case hyx13sk =>
              intro W hW
              go_simp
              try with_reducible rfl
            simp only [Act.put, List.setIfInBounds_toArray, List.set_cons_succ, List.set_cons_zero]
            refine' wpAnyH_take (i := 14) ?h1x14sk ?hsx14sk ?hfx14sk ?hrx14sk ?hQx14sk (Or.inr ⟨?hwx14sk, rfl⟩) hS ?restx14sk
            case h1x14sk => (simp only [List.getElem?_toArray, List.getElem?_cons_succ, List.getElem?_cons_zero]; rfl)
            case hsx14sk | hfx14sk | hrx14sk => kernel_rfl
            case hQx14sk => exact fun _ _ _ h => h
            case hwx14sk => rfl
            simp only [Act.put, List.setIfInBounds_toArray, List.set_cons_succ, List.set_cons_zero]
            refine' wpAnyH_take (i := 15) ?h1x15sk ?hsx15sk ?hfx15sk ?hrx15sk ?hQx15sk (Or.inr ⟨?hwx15sk, rfl⟩) hS ?restx15sk
            case h1x15sk => (simp only [List.getElem?_toArray, List.getElem?_cons_succ, List.getElem?_cons_zero]; rfl)
            case hsx15sk | hfx15sk | hrx15sk => kernel_rfl
            case hQx15sk => exact fun _ _ _ h => h
            case hwx15sk => rfl
            simp only [Act.put, List.setIfInBounds_toArray, List.set_cons_succ, List.set_cons_zero]
            refine' wpAnyH_take (i := 16) ?h1x16sk ?hsx16sk ?hfx16sk ?hrx16sk ?hQx16sk (Or.inr ⟨?hwx16sk, rfl⟩) hS ?restx16sk
            case h1x16sk => (simp only [List.getElem?_toArray, List.getElem?_cons_succ, List.getElem?_cons_zero]; rfl)
            case hsx16sk | hfx16sk | hrx16sk => kernel_rfl
            case hQx16sk => exact fun _ _ _ h => h
            case hwx16sk => rfl
            simp only [Act.put, List.setIfInBounds_toArray, List.set_cons_succ, List.set_cons_zero]
            refine' wpAnyH_take (i := 17) ?h1x17sk ?hsx17sk ?hfx17sk ?hrx17sk ?hQx17sk (Or.inr ⟨?hwx17sk, rfl⟩) hS ?restx17sk
            case h1x17sk => (simp only [List.getElem?_toArray, List.getElem?_cons_succ, List.getElem?_cons_zero]; rfl)
            case hsx17sk | hfx17sk | hrx17sk => kernel_rfl
            case hQx17sk => exact fun _ _ _ h => h
            case hwx17sk => rfl
            simp only [Act.put, List.setIfInBounds_toArray, List.set_cons_succ, List.set_cons_zero]
            refine' wpAnyH_take (i := 18) ?h1x18sk ?hsx18sk ?hfx18sk ?hrx18sk ?hQx18sk (Or.inr ⟨?hwx18sk, rfl⟩) hS ?restx18sk
            case h1x18sk => (simp only [List.getElem?_toArray, List.getElem?_cons_succ, List.getElem?_cons_zero]; rfl)
            case hsx18sk | hfx18sk | hrx18sk => kernel_rfl
            case hQx18sk => exact fun _ _ _ h => h
            case hwx18sk => rfl
            simp only [Act.put, List.setIfInBounds_toArray, List.set_cons_succ, List.set_cons_zero]
            refine' wpAnyH_take (i := 19) ?h1x19sk ?hsx19sk ?hfx19sk ?hrx19sk ?hQx19sk (Or.inr ⟨?hwx19sk, rfl⟩) hS ?restx19sk
            case h1x19sk => (simp only [List.getElem?_toArray, List.getElem?_cons_succ, List.getElem?_cons_zero]; rfl)
            case hsx19sk | hfx19sk | hrx19sk => kernel_rfl
            case hQx19sk => exact fun _ _ _ h => h
            case hwx19sk => rfl
            simp only [Act.put, List.setIfInBounds_toArray, List.set_cons_succ, List.set_cons_zero]
            refine' wpAnyH_take (i := 20) ?h1x20sk ?hsx20sk ?hfx20sk ?hrx20sk ?hQx20sk (Or.inr ⟨?hwx20sk, rfl⟩) hS ?restx20sk
            case h1x20sk => (simp only [List.getElem?_toArray, List.getElem?_cons_succ, List.getElem?_cons_zero]; rfl)
            case hsx20sk | hfx20sk | hrx20sk => kernel_rfl
            case hQx20sk => exact fun _ _ _ h => h
            case hwx20sk => rfl
            simp only [Act.put, List.setIfInBounds_toArray, List.set_cons_succ, List.set_cons_zero]
            refine' wpAnyH_take (i := 21) ?h1x21sk ?hsx21sk ?hfx21sk ?hrx21sk ?hQx21sk (Or.inr ⟨?hwx21sk, rfl⟩) hS ?restx21sk
            case h1x21sk => (simp only [List.getElem?_toArray, List.getElem?_cons_succ, List.getElem?_cons_zero]; rfl)
            case hsx21sk | hfx21sk | hrx21sk => kernel_rfl
            case hQx21sk => exact fun _ _ _ h => h
            case hwx21sk => rfl
            simp only [Act.put, List.setIfInBounds_toArray, List.set_cons_succ, List.set_cons_zero]
            refine' wpAnyH_take (i := 22) ?h1x22sk ?hsx22sk ?hfx22sk ?hrx22sk ?hQx22sk (Or.inr ⟨?hwx22sk, rfl⟩) hS ?restx22sk
            case h1x22sk => (simp only [List.getElem?_toArray, List.getElem?_cons_succ, List.getElem?_cons_zero]; rfl)
            case hsx22sk | hfx22sk | hrx22sk => kernel_rfl
            case hQx22sk => exact fun _ _ _ h => h
            case hwx22sk => rfl
            simp only [Act.put, List.setIfInBounds_toArray, List.set_cons_succ, List.set_cons_zero]
            refine' wpAnyH_take (i := 23) ?h1x23sk ?hsx23sk ?hfx23sk ?hrx23sk ?hQx23sk (Or.inr ⟨?hwx23sk, rfl⟩) hS ?restx23sk
            case h1x23sk => (simp only [List.getElem?_toArray, List.getElem?_cons_succ, List.getElem?_cons_zero]; rfl)
            case hsx23sk | hfx23sk | hrx23sk => kernel_rfl
            case hQx23sk => exact fun _ _ _ h => h
            case hwx23sk => rfl
            simp only [Act.put, List.setIfInBounds_toArray, List.set_cons_succ, List.set_cons_zero]
            refine' wpAnyH_take (i := 24) ?h1x24sk ?hsx24sk ?hfx24sk ?hrx24sk ?hQx24sk (Or.inr ⟨?hwx24sk, rfl⟩) hS ?restx24sk
            case h1x24sk => (simp only [List.getElem?_toArray, List.getElem?_cons_succ, List.getElem?_cons_zero]; rfl)
            case hsx24sk | hfx24sk | hrx24sk => kernel_rfl
            case hQx24sk => exact fun _ _ _ h => h
            case hwx24sk => rfl
            simp only [Act.put, List.setIfInBounds_toArray, List.set_cons_succ, List.set_cons_zero]
            refine' wpAnyH_take (i := 25) ?h1x25sk ?hsx25sk ?hfx25sk ?hrx25sk ?hQx25sk (Or.inr ⟨?hwx25sk, rfl⟩) hS ?restx25sk
            case h1x25sk => (simp only [List.getElem?_toArray, List.getElem?_cons_succ, List.getElem?_cons_zero]; rfl)
            case hsx25sk | hfx25sk | hrx25sk => kernel_rfl
            case hQx25sk => exact fun _ _ _ h => h
            case hwx25sk => rfl
            simp only [Act.put, List.setIfInBounds_toArray, List.set_cons_succ, List.set_cons_zero]
            refine' wpAnyH_take (i := 26) ?h1x26sk ?hsx26sk ?hfx26sk ?hrx26sk ?hQx26sk (Or.inr ⟨?hwx26sk, rfl⟩) hS ?restx26sk
            case h1x26sk => (simp only [List.getElem?_toArray, List.getElem?_cons_succ, List.getElem?_cons_zero]; rfl)
            case hsx26sk | hfx26sk | hrx26sk => kernel_rfl
            case hQx26sk => exact fun _ _ _ h => h
            case hwx26sk => rfl
            simp only [Act.put, List.setIfInBounds_toArray, List.set_cons_succ, List.set_cons_zero]
            refine' wpAnyH_take (i := 27) ?h1x27sk ?hsx27sk ?hfx27sk ?hrx27sk ?hQx27sk (Or.inr ⟨?hwx27sk, rfl⟩) hS ?restx27sk
            case h1x27sk => (simp only [List.getElem?_toArray, List.getElem?_cons_succ, List.getElem?_cons_zero]; rfl)
            case hsx27sk | hfx27sk | hrx27sk => kernel_rfl
            case hQx27sk => exact fun _ _ _ h => h
            case hwx27sk => rfl
            simp only [Act.put, List.setIfInBounds_toArray, List.set_cons_succ, List.set_cons_zero]
            refine' wpAnyH_take (i := 28) ?h1x28sk ?hsx28sk ?hfx28sk ?hrx28sk ?hQx28sk (Or.inr ⟨?hwx28sk, rfl⟩) hS ?restx28sk
            case h1x28sk => (simp only [List.getElem?_toArray, List.getElem?_cons_succ, List.getElem?_cons_zero]; rfl)
            case hsx28sk | hfx28sk | hrx28sk => kernel_rfl
            case hQx28sk => exact fun _ _ _ h => h
            case hwx28sk => rfl
            simp only [Act.put, List.setIfInBounds_toArray, List.set_cons_succ, List.set_cons_zero]
            refine' wpAnyH_take (i := 29) ?h1x29sk ?hsx29sk ?hfx29sk ?hrx29sk ?hQx29sk (Or.inl ⟨?hwx29sk, ?hyx29sk⟩) hS ?restx29sk
            case h1x29sk => (simp only [List.getElem?_toArray, List.getElem?_cons_succ, List.getElem?_cons_zero]; rfl)
            case hsx29sk | hfx29sk | hrx29sk => kernel_rfl
            case hQx29sk => exact fun _ _ _ h => h
            case hwx29sk => rfl
            case hyx29sk =>
              intro W hW
              go_simp
              try with_reducible rfl
            simp only [Act.put, List.setIfInBounds_toArray, List.set_cons_succ, List.set_cons_zero]
            refine wpAnyH_done (by kernel_rfl) ?_ _
            have BE := Lib.hid (B1.out.trans ((HB.out.trans (hS.mono HB.out.size)).mono B1.out.size))
            have RR : Hid (sameD x y = false) := by show _ = _; rw [SD.out]; exact decide_eq_false NEL.out
            clear hS
            go_wp2_with fail
            go_ret
            exact ⟨by rw [RR.out]; rfl, BE.out⟩
        · have hge : ¬ (i : Int) < (L : Int) := by omega
          obtain rfl : i = L := by omega
          have EQL := Lib.hid (SE.out (fun j hj => HALL.out j (by rw [HLL.out]; exact hj)))
          have RR : Hid (sameD x y = true) := by show _ = _; rw [SD.out]; exact decide_eq_true EQL.out
          go_wp2_with fail
          go_ret
          exact ⟨by rw [RR.out]; rfl, BW.out⟩
    · have RR : Hid (sameD x y = false) := by show _ = _; rw [SD.out]; exact decide_eq_false (fun e => hlen (by rw [e]))
      have f1 : ((x.l.length : Int) != (y.l.length : Int)) = true := by simp; omega
      have f2 : (x.l.length != y.l.length) = true := by simp; omega
      clear hlen SL
      generalize x.l.length = n1 at *
      generalize y.l.length = n2 at *
      go_enter Try.func19, Try.ntmps19
      go_upto_region 1 with (fail)
      rw [← HW1.out]
      go_wp2_with fail
      go_ret
      exact ⟨by rw [RR.out]; rfl, B1.out⟩
  · have RR : Hid (sameD x y = false) := by show _ = _; rw [SD.out, decide_eq_false hll]; rfl
    clear SL hlf hlg SD
    cases lf with
    | true =>
      cases lg with
      | true => exact absurd rfl hll
      | false =>
        go_enter Try.func19, Try.ntmps19
        go_upto_region 1 with (fail)
        rw [← HW1.out]
        go_wp2_with fail
        go_ret
        exact ⟨by rw [RR.out]; rfl, B1.out⟩
    | false =>
      cases lg with
      | false => exact absurd rfl hll
      | true =>
        go_enter Try.func19, Try.ntmps19
        go_upto_region 1 with (fail)
        rw [← HW1.out]
        go_wp2_with fail
        go_ret
        exact ⟨by rw [RR.out]; rfl, B1.out⟩
set_option maxRecDepth 100000 in
set_option maxHeartbeats 8000000 in
theorem sameL (A O : Array Value) (n : NV) (y : DN) (w : World) (hv : ND w (.agg A) n) (hA : (Try.prog.info? 26).map (·.size) = some A.size) (hm : n.ks.length ≤ 100) (hf : ∀ p ∈ n.qs, 0 ≤ p.1 ∧ p.1 ≤ 4294967295) (hu : DM w (.agg O) y) : Calls Try.prog 17 #[.agg A, .agg O] w fun e w' => e = .returned (.bool (okN n && sameD (asN n) y)) ∧ Below w.heap.size w w' := by
  have IA := Lib.hid hA
  have IO : Hid ((Try.prog.info? 32).map (·.size) = some O.size) := by obtain ⟨V, e, _⟩ := hu; injection e with e; show _ = _; rw [e]; exact i32 _ _
  have hz := z32
  obtain ⟨Z, hZ⟩ : ∃ Z : Array Value, Z = #[.bool false, .slice none 0 0] := ⟨_, rfl⟩
  rw [← hZ] at hz
  have ZE := Lib.hid hZ
  have AC : Hid (∀ W, ND W (.agg A) n → Calls Try.prog 9 #[.agg A] W (AsP W n)) := fun W h => asD A n W h hm hf
  have LM : Hid ((asN n).l.length ≤ 100) := by
    show _ ≤ _
    unfold asN
    by_cases h : okN n = true
    · rw [if_pos h, parts_len]; exact hm
    · rw [if_neg h]; exact Nat.zero_le _
  obtain ⟨W1, hW1⟩ : ∃ W1, W1 = (w.alloc (.cells A 26)).alloc (.cells O 32) := ⟨_, rfl⟩
  have b0 : Below w.heap.size w (w.alloc (.cells A 26)) := (Below.refl _ _).alloc (Nat.le_refl _) _
  have b1 : Below w.heap.size w W1 := by rw [hW1]; exact b0.alloc (by simp) _
  have G1 : Hid (W1.heap[w.heap.size]? = some (.cells A 26 (0, 0))) := by show _ = _; rw [hW1, Below.heap_alloc _ _ _ (by simp)]; exact heap_alloc_new w _
  have G2 : Hid (W1.heap[w.heap.size + 1]? = some (.cells O 32 (0, 0))) := by
    show _ = _
    rw [hW1]
    have := heap_alloc_new (w.alloc (.cells A 26)) (.cells O 32)
    simpa using this
  have NR := Lib.hid (hv.below b1)
  have DR := Lib.hid (hu.below b1)
  have B0 := Lib.hid b1
  have HW1 := Lib.hid hW1
  obtain ⟨r, hr⟩ : ∃ r, r = (okN n && sameD (asN n) y) := ⟨_, rfl⟩
  rw [← hr]
  have HRR := Lib.hid hr
  clear hW1 b0 b1 hv hu hA hm hf hZ hr
  go_enter Try.func17, Try.ntmps17
  go_upto_region 1 with (fail)
  rw [← HW1.out]
  go_wp2_with (refine wpList_load_row rfl 26 (.tmp 2) rfl w.heap.size rfl 26 A (0, 0) _ G1.out Try.underlying26 rfl IA.out ?_)
  refine (AC.out _ NR.out).mono ?_
  rintro e w2 ⟨X, rfl, hd, hb⟩
  have B0 := Lib.hid (B0.out.trans (hb.mono B0.out.size))
  have G2 := Lib.hid ((hb.block _ (blk_lt G2.out)).trans G2.out)
  have DR := Lib.hid (DR.out.below hb)
  clear hb G1 NR
  have IX : Hid ((Try.prog.info? 32).map (·.size) = some X.size) := by obtain ⟨V, e, _⟩ := hd; injection e with e; show _ = _; rw [e]; exact i32 _ _
  have SX : Hid (Z.size = X.size) := by obtain ⟨V, e, _⟩ := hd; injection e with e; show _ = _; rw [ZE.out, e]; rfl
  have OX : Hid (X.all (·.oneCell') = true) := by
    obtain ⟨V, e, hp⟩ := hd
    injection e with e
    obtain ⟨xa, ca, rfl, _⟩ := hp.form
    show _ = _; rw [e]; simp [Value.oneCell']
  have GN := Lib.hid (heap_alloc_new w2 (.cells Z 32))
  have RW := Lib.hid (alloc_setRowT w2 Z X 32 _ rfl)
  have hb : Below w2.heap.size w2 (w2.alloc (.cells X 32)) := (Below.refl _ _).alloc (Nat.le_refl _) _
  have G3 := Lib.hid (heap_alloc_new w2 (.cells X 32))
  have DX := Lib.hid (hd.below hb)
  have B0 := Lib.hid (B0.out.trans (hb.mono B0.out.size))
  have G2 := Lib.hid ((hb.block _ (blk_lt G2.out)).trans G2.out)
  have DR := Lib.hid (DR.out.below hb)
  clear hb hd
  go_upto_region 2 with (refine wpList_store_row rfl 32 (.tmp 5) (.tmp 10) rfl w2.heap.size X rfl rfl 32 Z GN.out IX.out SX.out OX.out ?_)
  rw [RW.out]
  try simp only [Act.put]
  clear GN RW hz
  generalize w2.alloc (.cells X 32) = w3 at *
  generalize w2.heap.size = gx at *
  have SC := Lib.hid (sameDC X O (asN n) y w3 DX.out DR.out LM.out)
  cases hok : okN n with
  | false =>
    go_wp2_with fail
    go_ret
    exact ⟨by rw [HRR.out, hok]; rfl, B0.out⟩
  | true =>
    go_wp2_with (first
      | (refine wpList_load_met rfl 32 (.tmp 5) rfl gx rfl 32 X (0, 0) _ G3.out Try.underlying32 ⟨_, rfl⟩ IX.out ?_)
      | (refine wpList_load_met rfl 32 (.tmp 3) rfl (w.heap.size + 1) rfl 32 O (0, 0) _ G2.out Try.underlying32 ⟨_, rfl⟩ IO.out ?_))
    refine SC.out.mono ?_
    rintro e w4 ⟨rfl, hb⟩
    have B0 := Lib.hid (B0.out.trans (hb.mono B0.out.size))
    clear hb
    go_wp2_with fail
    go_ret
    exact ⟨by rw [HRR.out, hok]; rfl, B0.out⟩
end Go.Proofs.Ytnifaldgofmciaa
