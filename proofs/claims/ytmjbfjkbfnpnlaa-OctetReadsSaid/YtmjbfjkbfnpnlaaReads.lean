/-
  For every slice b of bytes and every slice asks of ints the law OctetReads of package casematelaw01 returns true, and the arguments read afterwards as before: a reader tells what stands at the front of what is left, whatever is asked, and at the end whether all was read; nothing is shared. Condition: none.
-/
import Derived.Test.YtmjbfjkbfnpnlaaReadsB
import Derived.Deep.DrawnRows
import Derived.Deep.RegionWith
import Derived.Test.YtmjbfjkbfnpnlaaL
namespace Go.Proofs.Ytmjbfjkbfnpnlaa.octetReads
open Go.ChangeShapes Go.WideShapes Go.ChangeAt Go.RowKit
attribute [local go_sem ↓] Go.wp_at_zero Go.wp_at_succ


theorem walk_great (x y : Option Addr) (l c m d : Nat) (hl : l ≤ 9223372036854775807) (hg : 2000 < l) (w : World) :
    Calls Try.prog 5 #[.slice x l c, .slice y m d] w fun e w' => e = .returned (.bool true) ∧ Below w.heap.size w w' := by
  go_enter Try.func5, Try.ntmps5
  go_wp2_with (go_at_call 8; refine (alive _).mono ?_; rintro e w1 ⟨rfl, hb⟩; have HB := Lib.hid hb; clear hb)
  go_ret
  exact ⟨rfl, HB.out⟩

/-- Read, with what stays though an older block is written. -/
def ReadQ (w : World) (xs : List Int) (e : Ending) (w' : World) : Prop :=
  ∃ g, e = .returned (.pointer (some ⟨g, 0, none⟩)) ∧ Below w.heap.size w w' ∧ w.heap.size ≤ g ∧ g < w'.heap.size ∧ ∀ (W wr : World) (row : Option Nat), (∀ k, row = some k → k < w.heap.size) → Below w'.heap.size w' W → W.grownBy wr row → RD wr g xs false
theorem readq (v : Value) (xs : List Int) (hl : xs.length ≤ 2000) (w : World) (h : Sees w v xs) : Calls Try.prog 23 #[v] w (ReadQ w xs) :=
  (read_rd v xs (by omega) w h).mono fun e w' ⟨he, hw⟩ => by
    subst he hw
    refine ⟨_, rfl, ((Below.refl _ _).alloc (Nat.le_refl _) _).alloc (by simp) _, by omega, by simp, fun W wr row hk hb hg => ?_⟩
    have hm : xs.length ≤ maxLen := by unfold maxLen; omega
    have h1 := rd_made w xs h.1 hm
    generalize hA : (w.alloc (.cells (bcells xs) 5)).alloc (.cells #[.slice (some ⟨w.heap.size, 0, none⟩) xs.length xs.length, .bool false] 70) = A at h1 hb
    have hcell : A.heap[w.heap.size + 1]? = some (.cells #[.slice (some ⟨w.heap.size, 0, none⟩) xs.length xs.length, .bool false] 70 (0, 0)) := by
      rw [← hA]
      have := heap_alloc_new (w.alloc (.cells (bcells xs) 5)) (.cells #[.slice (some ⟨w.heap.size, 0, none⟩) xs.length xs.length, .bool false] 70)
      simpa using this
    obtain ⟨hbyt, b, o, cap, hh, hne, hcl, hcm, hc⟩ := RD.below h1 hb
    have hb' := (hb.block (w.heap.size + 1) (Array.getElem?_eq_some_iff.1 hcell).1).trans hcell
    rw [hb'] at hh
    have hbe : b = w.heap.size := by
      simp at hh
      exact hh.1.1.symm
    subst hbe
    refine ⟨hbyt, w.heap.size, o, cap, (hg.block _ (Array.getElem?_eq_some_iff.1 hb').1 (fun e => by have := hk _ e.symm; omega)).trans (by rw [hb']; exact hh), by omega, hcl, hcm, fun i hi => hg.cell (hc i hi) (fun e => by have := hk _ e.symm; simp at this)⟩

/-- A byte of the call's own is written. -/
theorem rxq {w : World} {base n c : Nat} {x : Option Addr} {xs : List Int} (h : Own w base (.slice x n c) xs) (hbase : base ≤ w.heap.size) (wr : World) (row : Option Nat) (hk : ∀ k, row = some k → k < base)
    (hg : (w.alloc (.cells #[.slice x n c, .bool false] 53)).grownBy wr row) : RX wr w.heap.size xs false := by
  have hnew := heap_alloc_new w (.cells #[.slice x n c, .bool false] 53)
  obtain ⟨hb, hl, ⟨h1, h2⟩ | ⟨g', cap', cur, h1, hb2, hg', hn, hm, hs, ht⟩⟩ := id h
  · refine ⟨hb, .slice x n c, (hg.block _ (by simp) (fun e => by have := hk _ e.symm; omega)).trans hnew, .inl ⟨h1, List.length_eq_zero_iff.1 h2⟩⟩
  · have hss := h.sees
    refine ⟨hb, .slice x n c, (hg.block _ (by simp) (fun e => by have := hk _ e.symm; omega)).trans hnew, .inr ⟨g', 0, cap', h1, ?_, hn, hm, fun i hi => ?_⟩⟩
    · have := (Array.getElem?_eq_some_iff.1 hg').1
      omega
    · have hcell : w.cell? ⟨g', 0 + i, none⟩ = some (.int .u8 (nth xs i)) := by
        rw [cell_of_row _ _ _ _ _ _ hg', Nat.zero_add]
        have h1 : (xs.map (Value.int .u8))[i]? = some (.int .u8 (nth xs i)) := by simp [nth, List.getD, hi]
        rw [← ht, List.getElem?_take_of_lt (by omega)] at h1
        simpa using h1
      have h2 : (w.alloc (.cells #[.slice x n c, .bool false] 53)).cell? ⟨g', 0 + i, none⟩ = some (.int .u8 (nth xs i)) := World.Extends.cell_of ((World.Extends.refl _).alloc _) hcell
      exact hg.cell h2 (fun e => by have := hk _ e.symm; simp at this; omega)
theorem own_set {w : World} {base g cap k : Nat} {xs : List Int} (h : Own w base (.slice (some ⟨g, 0, none⟩) xs.length cap) xs) (hk : k < xs.length) (z : Int) (hz : 0 ≤ z ∧ z ≤ 255) :
    Own (w.setCell ⟨g, k, none⟩ (.int .u8 z)) base (.slice (some ⟨g, 0, none⟩) xs.length cap) (xs.set k z) ∧ w.grownBy (w.setCell ⟨g, k, none⟩ (.int .u8 z)) (some g) ∧ w.cell? ⟨g, k, none⟩ = some (.int .u8 (nth xs k)) ∧ w.frozen? ⟨g, k, none⟩ = false := by
  obtain ⟨hb, hl, ⟨h1, _⟩ | ⟨g', cap', cur, h1, hbase, hg, hn, hm, hs, ht⟩⟩ := h
  · cases h1
  simp only [Value.slice.injEq, Option.some.injEq, Addr.mk.injEq] at h1
  obtain ⟨⟨rfl, _⟩, _, rfl⟩ := h1
  have hc : w.cell? ⟨g, k, none⟩ = some (.int .u8 (nth xs k)) := by
    rw [cell_of_row _ _ _ _ _ _ hg]
    have h1 : (xs.map (Value.int .u8))[k]? = some (.int .u8 (nth xs k)) := by simp [nth, List.getD, hk]
    rw [← ht, List.getElem?_take_of_lt (by omega)] at h1
    simpa using h1
  refine ⟨⟨fun y hy => ?_, by simp, .inr ⟨g, cap, cur.setIfInBounds k (.int .u8 z), by simp, hbase, ?_, by simpa using hn, hm, by simpa using hs, ?_⟩⟩, ?_, hc, frozen_block hg k⟩
  · rcases List.mem_or_eq_of_mem_set hy with h | h
    · exact hb y h
    · rw [h]; exact hz
  · rw [setCell_eq_setRow w g k _ _ _ _ hg]
    exact setRow_heap w g _ _ _ _ hg
  · rw [List.length_set, Array.toList_setIfInBounds, List.map_set, ← ht, List.take_set]
  · rw [setCell_eq_setRow w g k _ _ _ _ hg]
    exact grownBy_setRow _ _ _

set_option maxRecDepth 100000 in
set_option maxHeartbeats 16000000 in
theorem walk_small (v u : Value) (xs ls : List Int) (hl : xs.length ≤ 2000) (w : World) (h : Sees w v xs) (k : SeesI w u ls) :
    Calls Try.prog 5 #[v, u] w fun e w' => e = .returned (.bool true) ∧ Below w.heap.size w w' := by
  obtain ⟨x, c, rfl, h63⟩ := h.form
  obtain ⟨y, d, rfl, h64⟩ := k.form
  have H := Lib.hid h
  have K := Lib.hid k
  clear h k
  go_enter Try.func5, Try.ntmps5
  go_wp2_with fail
  refine (copy _ xs (by omega) _ H.out).mono ?_
  rintro e w1 ⟨x1, c1, rfl, ho, hb⟩
  have HO := Lib.hid ho
  have B1 := Lib.hid hb
  clear ho hb
  go_wp2_with fail
  refine (readq _ xs hl _ HO.out.sees).mono ?_
  rintro e w2 ⟨gr, rfl, hb2, hgr, hgr2, hst⟩
  have HST := Lib.hid hst
  have B2 := Lib.hid hb2
  have B2a := Lib.hid (B1.out.trans (hb2.mono B1.out.size))
  clear hst hb2
  go_wp2_with fail
  refine (copy _ xs (by omega) _ (H.out.below B2a.out)).mono ?_
  rintro e w3 ⟨x3, c3, rfl, ho3, hb3⟩
  have HO3 := Lib.hid ho3
  have B3 := Lib.hid hb3
  have hw13 : w1.heap.size ≤ w3.heap.size := by have := hb3.size; have := B2.out.size; omega
  have hw01 : w.heap.size ≤ w1.heap.size := B1.out.size
  have hw23 : w2.heap.size ≤ w3.heap.size := hb3.size
  clear ho3 hb3
  obtain ⟨W4, hW4⟩ : ∃ W, W = w3.alloc (.cells #[.slice x3 xs.length c3, .bool false] 53) := ⟨_, rfl⟩
  have HW4 := Lib.hid hW4
  clear hW4
  have B24 : Hid (Below w2.heap.size w2 W4) := by show Below _ _ _; rw [HW4.out]; exact B3.out.alloc B3.out.size _
  have B4 : Hid (Below w.heap.size w W4) := B2a.out.trans (B24.out.mono B2a.out.size)
  have HO4 : Hid (Own W4 w.heap.size (.slice x1 xs.length c1) xs) := (HO.out.below B2.out).below B24.out
  have hown1 : Hid (∀ k, Value.ownBlock (.slice x1 xs.length c1) = some k → k < w1.heap.size) := fun k hk => (HO.out.2.lt k hk).2
  go_wp2_with fail
  go_loopw [8] (fun i wr => ∃ (k : Nat) (ys : List Int), k ≤ xs.length ∧ i = .int .i64 k ∧ ys.length = xs.length ∧ Own wr w.heap.size (.slice x1 xs.length c1) ys ∧ W4.grownBy wr (Value.ownBlock (.slice x1 xs.length c1)) ∧ Below w.heap.size w wr) (fun i _ => xs.length - (intOf i).toNat)
  case atStart => exact ⟨0, xs, by omega, rfl, rfl, by rw [← HW4.out]; exact HO4.out, by rw [← HW4.out]; exact grownBy_refl _ _, by rw [← HW4.out]; exact B4.out⟩
  case round =>
    obtain ⟨k, ys, hk, rfl, hyl, ho, hg, hb⟩ := hrel
    by_cases hlt : k < xs.length
    · obtain ⟨g0, rfl, hg0⟩ : ∃ g0, x1 = some ⟨g0, 0, none⟩ ∧ w.heap.size ≤ g0 := by
        obtain ⟨_, _, ⟨_, h2⟩ | ⟨g', _, _, h1, h2, _⟩⟩ := ho
        · omega
        · simp only [Value.slice.injEq] at h1
          exact ⟨g', h1.1, h2⟩
      have hz := (xor8_zero (nth ys k) 255 (ho.1.nth k) (by omega)).2
      have ho' := ho
      rw [← hyl] at ho'
      have hky : k < ys.length := by omega
      obtain ⟨o1, o2, o3, o4⟩ := own_set ho' hky (bits .xor .u8 (nth ys k) 255) hz
      rw [hyl] at o1
      have O1 := Lib.hid o1
      have O2 := Lib.hid (grownBy_trans hg o2)
      have O5 := Lib.hid (hb.grown o2 hb.size (fun k e => by have := Option.some.inj e; omega))
      have HYL := Lib.hid hyl
      have y0 := (ho.1.nth k).1
      have y1 := (ho.1.nth k).2
      clear ho ho' hg hb o1 o2 hyl hz
      go_wp2_with fail
      go_roundw
      case rel => exact ⟨k + 1, _, by omega, by go_num, by rw [List.length_set]; exact HYL.out, O1.out, O2.out, O5.out⟩
      case measure => simp [intOf]; omega
    · have HR : Hid (RD wr gr xs false) := HST.out W4 wr _ hown1.out B24.out hg
      have HX : Hid (RX wr w3.heap.size xs false) := by
        show RX _ _ _ _
        have hg' := hg
        rw [HW4.out] at hg'
        exact rxq HO3.out B3.out.size wr _ (fun k e => by have := hown1.out k e; have := B2.out.size; omega) hg'
      have HB0 := Lib.hid hb
      have hgw : w.heap.size ≤ gr := by omega
      have hxw : w.heap.size ≤ w3.heap.size := by omega
      clear hg hb ho hyl HO HO3 HO4 hown1 HST B1 B2 B2a B3 B24 B4 HW4 hw13 hgr hgr2 hw01 hw23
      go_wp2_with fail
      generalize w3.heap.size = gx at HX hxw ⊢
      go_loopw [9] (fun i wr => ∃ (j : Nat) (ys : List Int) (s : Bool), j ≤ ls.length ∧ j ≤ 60 ∧ i = .int .i64 j ∧ Two wr gr gx ys s ∧ ys.length ≤ 2000 ∧ Below w.heap.size w wr) (fun i _ => 60 - (intOf i).toNat)
      case atStart => exact ⟨0, xs, false, by omega, by omega, rfl, ⟨HR.out, HX.out⟩, hl, HB0.out⟩
      case round =>
       clear HR HX HB0
       obtain ⟨j, ys, s, hj, hj2, rfl, ht, hyl, hb⟩ := hrel
       have HT := Lib.hid ht
       have HB := Lib.hid hb
       clear ht hb
       by_cases hj3 : j < ls.length
       · by_cases hj4 : j < 60
         · obtain ⟨ab, ao, rfl, hab, ac, m0, m1⟩ := K.out.at HB.out hj3
           have hcase : nth ls j = -1 ∨ nth ls j = -2 ∨ nth ls j = -4 ∨ nth ls j = -8 ∨ nth ls j = -9 ∨ (nth ls j ≠ -1 ∧ nth ls j ≠ -2 ∧ nth ls j ≠ -4 ∧ nth ls j ≠ -8 ∧ nth ls j ≠ -9) := by omega
           have hgx2 : gx < wr.heap.size := by
             obtain ⟨_, _, hh, _⟩ := HT.out.2
             exact (Array.getElem?_eq_some_iff.1 hh).1
           rcases hcase with hc | hc | hc | hc | hc | ⟨hc1, hc2, hc4, hc8, hc9⟩
           · have bd := bd8 ys s HT.out.1.1
             have n0 : 0 ≤ numI (got ys s 1) := bd.1
             have n1 : numI (got ys s 1) ≤ 255 := bd.2
             clear bd
             have hgl : (got ys s 1).length ≤ 1 := got_le ys s 1
             go_wp2_with fail
             refine (num8 gr gx ys s _ HT.out).mono ?_
             rintro e w5 ⟨rfl, hr5, hx5, hg5⟩
             have R5 := Lib.hid hr5
             have X5 := Lib.hid hx5
             have B5 := Lib.hid (HB.out.grown hg5 HB.out.size (fun k e => by have := Option.some.inj e; omega))
             clear hr5 hx5 hg5
             go_wp2_with fail
             refine (take_rx gx ys s 1 _ X5.out).mono ?_
             rintro e w6 ⟨v6, rfl, hs6, hx6, hg6⟩
             have T6 := Lib.hid (two_next R5.out X5.out hx6 hg6)
             have S6 := Lib.hid hs6
             have B6 := Lib.hid (B5.out.grown hg6 B5.out.size (fun k e => by have := Option.some.inj e; omega))
             clear hs6 hx6 hg6
             go_wp2_with fail
             refine (octetPuts.number _ (got ys s 1) (by omega) _ S6.out).mono ?_
             rintro e w7 ⟨rfl, rfl⟩
             go_wp2_with fail
             refine (endr gr _ _ _ T6.out.1).mono ?_
             rintro e w7 ⟨rfl, rfl⟩
             go_wp2_with fail
             refine (endx gx _ _ _ T6.out.2).mono ?_
             rintro e w7 ⟨rfl, rfl⟩
             go_wp2_with fail
             go_roundw
             case rel => exact ⟨j + 1, _, _, by omega, by omega, by go_num, T6.out, by have := rst_len ys s 1; omega, B6.out⟩
             case measure => simp [intOf]; omega
           · have bd := bd16 ys s HT.out.1.1
             have n0 : 0 ≤ numI (got ys s 2) := bd.1
             have n1 : numI (got ys s 2) ≤ 65535 := bd.2
             clear bd
             have hgl : (got ys s 2).length ≤ 2 := got_le ys s 2
             go_wp2_with fail
             refine (num16 gr gx ys s _ HT.out).mono ?_
             rintro e w5 ⟨rfl, hr5, hx5, hg5⟩
             have R5 := Lib.hid hr5
             have X5 := Lib.hid hx5
             have B5 := Lib.hid (HB.out.grown hg5 HB.out.size (fun k e => by have := Option.some.inj e; omega))
             clear hr5 hx5 hg5
             go_wp2_with fail
             refine (take_rx gx ys s 2 _ X5.out).mono ?_
             rintro e w6 ⟨v6, rfl, hs6, hx6, hg6⟩
             have T6 := Lib.hid (two_next R5.out X5.out hx6 hg6)
             have S6 := Lib.hid hs6
             have B6 := Lib.hid (B5.out.grown hg6 B5.out.size (fun k e => by have := Option.some.inj e; omega))
             clear hs6 hx6 hg6
             go_wp2_with fail
             refine (octetPuts.number _ (got ys s 2) (by omega) _ S6.out).mono ?_
             rintro e w7 ⟨rfl, rfl⟩
             go_wp2_with fail
             refine (endr gr _ _ _ T6.out.1).mono ?_
             rintro e w7 ⟨rfl, rfl⟩
             go_wp2_with fail
             refine (endx gx _ _ _ T6.out.2).mono ?_
             rintro e w7 ⟨rfl, rfl⟩
             go_wp2_with fail
             go_roundw
             case rel => exact ⟨j + 1, _, _, by omega, by omega, by go_num, T6.out, by have := rst_len ys s 2; omega, B6.out⟩
             case measure => simp [intOf]; omega
           · have bd := bd32 ys s HT.out.1.1
             have n0 : 0 ≤ numI (got ys s 4) := bd.1
             have n1 : numI (got ys s 4) ≤ 4294967295 := bd.2
             clear bd
             have hgl : (got ys s 4).length ≤ 4 := got_le ys s 4
             go_wp2_with fail
             refine (num32 gr gx ys s _ HT.out).mono ?_
             rintro e w5 ⟨rfl, hr5, hx5, hg5⟩
             have R5 := Lib.hid hr5
             have X5 := Lib.hid hx5
             have B5 := Lib.hid (HB.out.grown hg5 HB.out.size (fun k e => by have := Option.some.inj e; omega))
             clear hr5 hx5 hg5
             go_wp2_with fail
             refine (take_rx gx ys s 4 _ X5.out).mono ?_
             rintro e w6 ⟨v6, rfl, hs6, hx6, hg6⟩
             have T6 := Lib.hid (two_next R5.out X5.out hx6 hg6)
             have S6 := Lib.hid hs6
             have B6 := Lib.hid (B5.out.grown hg6 B5.out.size (fun k e => by have := Option.some.inj e; omega))
             clear hs6 hx6 hg6
             go_wp2_with fail
             refine (octetPuts.number _ (got ys s 4) (by omega) _ S6.out).mono ?_
             rintro e w7 ⟨rfl, rfl⟩
             go_wp2_with fail
             refine (endr gr _ _ _ T6.out.1).mono ?_
             rintro e w7 ⟨rfl, rfl⟩
             go_wp2_with fail
             refine (endx gx _ _ _ T6.out.2).mono ?_
             rintro e w7 ⟨rfl, rfl⟩
             go_wp2_with fail
             go_roundw
             case rel => exact ⟨j + 1, _, _, by omega, by omega, by go_num, T6.out, by have := rst_len ys s 4; omega, B6.out⟩
             case measure => simp [intOf]; omega
           · have bd := bd64 ys s HT.out.1.1
             have n0 : 0 ≤ numI (got ys s 8) := bd.1
             have n1 : numI (got ys s 8) ≤ 18446744073709551615 := bd.2
             clear bd
             have hgl : (got ys s 8).length ≤ 8 := got_le ys s 8
             go_wp2_with fail
             refine (num64 gr gx ys s _ HT.out).mono ?_
             rintro e w5 ⟨rfl, hr5, hx5, hg5⟩
             have R5 := Lib.hid hr5
             have X5 := Lib.hid hx5
             have B5 := Lib.hid (HB.out.grown hg5 HB.out.size (fun k e => by have := Option.some.inj e; omega))
             clear hr5 hx5 hg5
             go_wp2_with fail
             refine (take_rx gx ys s 8 _ X5.out).mono ?_
             rintro e w6 ⟨v6, rfl, hs6, hx6, hg6⟩
             have T6 := Lib.hid (two_next R5.out X5.out hx6 hg6)
             have S6 := Lib.hid hs6
             have B6 := Lib.hid (B5.out.grown hg6 B5.out.size (fun k e => by have := Option.some.inj e; omega))
             clear hs6 hx6 hg6
             go_wp2_with fail
             refine (octetPuts.number _ (got ys s 8) (by omega) _ S6.out).mono ?_
             rintro e w7 ⟨rfl, rfl⟩
             go_wp2_with fail
             refine (endr gr _ _ _ T6.out.1).mono ?_
             rintro e w7 ⟨rfl, rfl⟩
             go_wp2_with fail
             refine (endx gx _ _ _ T6.out.2).mono ?_
             rintro e w7 ⟨rfl, rfl⟩
             go_wp2_with fail
             go_roundw
             case rel => exact ⟨j + 1, _, _, by omega, by omega, by go_num, T6.out, by have := rst_len ys s 8; omega, B6.out⟩
             case measure => simp [intOf]; omega
           · obtain ⟨xx, cc, cX⟩ : ∃ xx cc, wr.cell? ⟨gx, 0, none⟩ = some (.slice xx ys.length cc) := by
               obtain ⟨_, sv, hh, hv⟩ := HT.out.2
               have c0 : wr.cell? ⟨gx, 0, none⟩ = some sv := by rw [cell_of_row wr gx 0 _ _ _ hh]; rfl
               rcases hv with ⟨rfl, rfl⟩ | ⟨b, o, cap, rfl, _⟩
               · exact ⟨_, _, c0⟩
               · exact ⟨_, _, c0⟩
             have hxr : gx ≠ gr := by
               obtain ⟨_, sv, hh, _⟩ := HT.out.2
               obtain ⟨_, _, _, _, hh2, _⟩ := HT.out.1
               rintro rfl
               rw [hh] at hh2
               simp at hh2
             have HT2 : Hid (Two wr.drew gr gx ys s) := HT.out
             have HB2 : Hid (Below w.heap.size w wr.drew) := HB.out.drew
             go_wp2_with fail
             go_region_with (first
               | (go_at_call 30; refine (rest_rd gr ys s hyl _ HT2.out.1).mono ?_; rintro e w5 ⟨q, rfl, hs5, hq5, hr5, hg5⟩; have X5 := Lib.hid (two_first HT2.out hg5); have R5 := Lib.hid hr5; have B5 := Lib.hid (HB2.out.grown hg5 HB2.out.size (fun k e => by have := Option.some.inj e; omega)); have S5 := Lib.hid hs5; have c5 := hs5.str; have hqx : q ≠ gx := (by have hlt : wr.drew.heap.size = wr.heap.size := rfl; omega); have cX5 : w5.cell? ⟨gx, 0, none⟩ = some (.slice xx ys.length cc) := hg5.cell cX (fun e => hxr (by have := Option.some.inj e; exact this)); clear hs5 hq5 hr5 hg5)
               | (go_at_call 26; refine (take_rx gx ys s ys.length _ X5.out).mono ?_; rintro e w6 ⟨v6, rfl, hs6, hx6, hg6⟩; have T6 := Lib.hid (two_next R5.out X5.out hx6 hg6); have c6 := hs6.str; have c56 := (S5.out.grown hg6 (fun k e h => by have := Option.some.inj e; simp [Value.ownBlock] at h; omega)).str; have B6 := Lib.hid (B5.out.grown hg6 B5.out.size (fun k e => by have := Option.some.inj e; omega)); clear hs6 hx6 hg6))
             all_goals
               go_wp2_with fail
               refine (endr gr _ _ _ T6.out.1).mono ?_
               rintro e w7 ⟨rfl, rfl⟩
               go_wp2_with fail
               refine (endx gx _ _ _ T6.out.2).mono ?_
               rintro e w7 ⟨rfl, rfl⟩
               go_wp2_with fail
               go_roundw
               case rel => exact ⟨j + 1, _, _, by omega, by omega, by go_num, T6.out, by have := rst_len ys s ys.length; omega, B6.out⟩
               case measure => simp [intOf]; omega
           · have b1 : (nth ls j == -1) = false := by simpa using hc1
             have b2 : (nth ls j == -2) = false := by simpa using hc2
             have b4 : (nth ls j == -4) = false := by simpa using hc4
             have b8 : (nth ls j == -8) = false := by simpa using hc8
             have b9 : (nth ls j == -9) = false := by simpa using hc9
             have hag : ab ≠ gr := by omega
             have HT2 : Hid (Two wr.drew gr gx ys s) := HT.out
             have HB2 : Hid (Below w.heap.size w wr.drew) := HB.out.drew
             go_wp2_with fail
             go_region_with (first
               | (go_at_call 31; refine (bytes_rd gr ys s (nth ls j) hyl _ HT2.out.1).mono ?_; rintro e w5 ⟨q, rfl, hs5, hq5, hr5, hg5⟩; have X5 := Lib.hid (two_first HT2.out hg5); have R5 := Lib.hid hr5; have B5 := Lib.hid (HB2.out.grown hg5 HB2.out.size (fun k e => by have := Option.some.inj e; omega)); have S5 := Lib.hid hs5; have c5 := hs5.str; have hqx : q ≠ gx := (by have hlt : wr.drew.heap.size = wr.heap.size := rfl; omega); have ac5 : w5.cell? ⟨ab, ao + j, none⟩ = some (.int .i64 (nth ls j)) := hg5.cell ac (fun e => hag (by have := Option.some.inj e; exact this)); clear hs5 hq5 hr5 hg5)
               | (go_at_call 26; refine (take_rx gx ys s (nth ls j) _ X5.out).mono ?_; rintro e w6 ⟨v6, rfl, hs6, hx6, hg6⟩; have T6 := Lib.hid (two_next R5.out X5.out hx6 hg6); have c6 := hs6.str; have c56 := (S5.out.grown hg6 (fun k e h => by have := Option.some.inj e; simp [Value.ownBlock] at h; omega)).str; have B6 := Lib.hid (B5.out.grown hg6 B5.out.size (fun k e => by have := Option.some.inj e; omega)); clear hs6 hx6 hg6))
             all_goals
               go_wp2_with fail
               refine (endr gr _ _ _ T6.out.1).mono ?_
               rintro e w7 ⟨rfl, rfl⟩
               go_wp2_with fail
               refine (endx gx _ _ _ T6.out.2).mono ?_
               rintro e w7 ⟨rfl, rfl⟩
               go_wp2_with fail
               go_roundw
               case rel => exact ⟨j + 1, _, _, by omega, by omega, by go_num, T6.out, by have := rst_len ys s (nth ls j); omega, B6.out⟩
               case measure => simp [intOf]; omega
         · go_wp2_with fail
           refine (alive _).mono ?_
           rintro e w8 ⟨rfl, hb8⟩
           have B8 := Lib.hid (HB.out.trans (hb8.mono HB.out.size))
           clear hb8
           go_wp2_with fail
           refine (endr_nil _).mono ?_
           rintro e w9 ⟨rfl, rfl⟩
           go_wp2_with fail
           refine (u64_nil _).mono ?_
           rintro e w9 ⟨rfl, rfl⟩
           go_wp2_with fail
           refine (rest_nil _).mono ?_
           rintro e w9 ⟨rfl, rfl⟩
           go_wp2_with fail
           refine (bytes_nil 1 _).mono ?_
           rintro e w9 ⟨rfl, hb9⟩
           have B9 := Lib.hid (B8.out.trans (hb9.mono B8.out.size))
           clear hb9
           go_wp2_with fail
           go_ret
           exact ⟨rfl, B9.out⟩
       · go_wp2_with fail
         refine (alive _).mono ?_
         rintro e w8 ⟨rfl, hb8⟩
         have B8 := Lib.hid (HB.out.trans (hb8.mono HB.out.size))
         clear hb8
         go_wp2_with fail
         refine (endr_nil _).mono ?_
         rintro e w9 ⟨rfl, rfl⟩
         go_wp2_with fail
         refine (u64_nil _).mono ?_
         rintro e w9 ⟨rfl, rfl⟩
         go_wp2_with fail
         refine (rest_nil _).mono ?_
         rintro e w9 ⟨rfl, rfl⟩
         go_wp2_with fail
         refine (bytes_nil 1 _).mono ?_
         rintro e w9 ⟨rfl, hb9⟩
         have B9 := Lib.hid (B8.out.trans (hb9.mono B8.out.size))
         clear hb9
         go_wp2_with fail
         go_ret
         exact ⟨rfl, B9.out⟩
theorem walk (v u : Value) (xs ls : List Int) (w : World) (h : Sees w v xs) (k : SeesI w u ls) : Calls Try.prog 5 #[v, u] w fun e w' => e = .returned (.bool true) ∧ Below w.heap.size w w' := by
  by_cases hl : xs.length ≤ 2000
  · exact walk_small v u xs ls hl w h k
  · obtain ⟨x, c, rfl, h63⟩ := h.form
    obtain ⟨y, d, rfl, h64⟩ := k.form
    exact walk_great x y _ c _ d h63 (by omega) w

set_option maxRecDepth 100000 in
theorem lifted (os : Os) (started : os.Started) (H : Type) (enc : TypeId × Value → H) :
    ReturnsInHanded {} Try.checked os 5 .any (Rows.octetReadsSpec.pre6 enc Try.prog Try.f5 Rows.octetReadsRow.domain false) (Rows.octetReadsSpec.post enc Try.prog Try.f5 false true false false) := by
  refine returnsInHanded_of_change (C := Try.checked) own started (by kernel_rfl) Try.func5
    (ChangeSpec.witness6 (enc := enc) (C := Try.checked) false ⟨#[], #[.slice none 0 0, .slice none 0 0], []⟩ 8 (by kernel_rfl) (by kernel_rfl) (by kernel_rfl) (by kernel_rfl)) ?_
  intro W base args ds gs before hval0 hW hcnd _
  have hval : ∀ (j : Nat) t v, Try.f5.params[j]? = some t → args[j]? = some v → Value.okWide Try.prog W .any base t v := hval0
  have hW' := hW
  obtain ⟨p, q, hA0, hV, rfl, hfz, hnd⟩ := hW
  have hA : DataW.TrodAll enc Try.prog W 0 (fun _ => true) true Try.f5.params.toList args.toList ds p := hA0
  rw [Try.params5] at hA hval
  obtain ⟨v0, vs0, d0, ds0, p0, q0, hargs, rfl, rfl, h0, r0⟩ := trodAll_cons hA
  obtain ⟨v1, vs1, d1, ds1, p1, q1, rfl, rfl, rfl, h1, r1⟩ := trodAll_cons r0
  obtain ⟨rfl, rfl, rfl⟩ := trodAll_nil r1
  obtain rfl : args = #[v0, v1] := by cases args; simp_all
  obtain ⟨rfl, rfl⟩ := trodVars_none hV
  obtain ⟨x0, s0⟩ := open_sees (hval 0 25 v0 rfl rfl) h0
  obtain ⟨x1, s1⟩ := open_int64s (hval 1 47 v1 rfl rfl) h1
  refine (walk v0 v1 x0 x1 W s0 s1).mono fun e W' ⟨he, hb⟩ => ?_
  subst he
  exact ⟨_, rfl, law_post hW' rfl rfl rfl (by kernel_rfl) hb⟩

/-- The statement. -/
theorem proved : Rows.OctetReadsSaid :=
  OpenClaim.holds_of_wide 5 Try.f5 rfl rfl rfl rfl rfl rfl rfl ⟨rfl, rfl, rfl, rfl, rfl⟩ rfl rfl rfl rfl rfl (by kernel_rfl) Try.func5 (by kernel_rfl)
    (of_decide_eq_true (by kernel_rfl)) (by unfold Func.isWrapper; first | (rw [if_pos (by decide +kernel)]; kernel_rfl) | (rw [if_neg (by decide +kernel)]; exact ⟨rfl, rfl⟩))
    (fun os started H enc _ => lifted os started H enc)
#print axioms proved
end Go.Proofs.Ytmjbfjkbfnpnlaa.octetReads
