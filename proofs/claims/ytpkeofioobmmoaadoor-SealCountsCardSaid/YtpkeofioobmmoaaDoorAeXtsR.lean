/-
  Contracts of the document's own functions of package xts: masks doubled, tweaks. Condition: the numbers are bytes.
-/
import Derived.Test.YtpkeofioobmmoaaDoorAeSE
namespace Go.Proofs.YtpkeofioobmmoaaDoor.ae
open Go.RowKit
set_option maxRecDepth 100000 in
theorem tab_succ (n : Nat) (f : Nat → Nat) : tab (n + 1) f = tab n f ++ [f n] := by unfold tab; rw [List.range_succ, List.map_append]; rfl
set_option maxRecDepth 100000 in
/-- One byte more. -/
theorem Own.push {w : World} {base : Nat} {v : Value} {xs : List Nat} (h : Own w base v xs) {x : Nat} (hx : x < 256) (hn : xs.length + 1 ≤ 1099511627776) (hbase : base ≤ w.heap.size) :
    ∃ q cap w', (Builtin.append_ #[49, 49] 49 #[v, .slice (some ⟨w.heap.size, 0, none⟩) 1 1]).run Tryd.prog (w.alloc (.cells #[.int .u8 (x : Nat)] 5)) = .ok (.slice q (xs.length + 1) cap) w' ∧ Own w' base (.slice q (xs.length + 1) cap) (xs ++ [x]) ∧ Below base w w' := by
  have hb : Below w.heap.size w (w.alloc (.cells #[.int .u8 (x : Nat)] 5)) := (Below.refl _ _).alloc (Nat.le_refl _) _
  have hs : Sees (w.alloc (.cells #[.int .u8 (x : Nat)] 5)) (.slice (some ⟨w.heap.size, 0, none⟩) 1 1) [x] :=
    sees_row _ _ [x] (fun y hy => by simp at hy; omega) (by simp [maxLen]) (heap_alloc_new w (.cells #[.int .u8 (x : Nat)] 5)) 1 rfl
  obtain ⟨q, cap, w', hr, ho, _, hbl⟩ := app (h.below hb) hs hn (Nat.le_trans hbase hb.size)
  exact ⟨q, cap, w', hr, ho, (hb.mono hbase).trans hbl⟩
set_option maxRecDepth 100000 in
theorem frozen_block {w : World} {g : Nat} {cs : Array Value} {t : TypeId} (hg : w.heap[g]? = some (.cells cs t (0, 0))) (i : Nat) : w.frozen? ⟨g, i, none⟩ = false := by simp [World.frozen?, hg]
set_option maxRecDepth 100000 in
theorem own_set {w : World} {base g cap k : Nat} {xs : List Nat} (h : Own w base (.slice (some ⟨g, 0, none⟩) xs.length cap) xs) (hk : k < xs.length) (z : Nat) (hz : z < 256) :
    Own (w.setCell ⟨g, k, none⟩ (.int .u8 (z : Nat))) base (.slice (some ⟨g, 0, none⟩) xs.length cap) (xs.set k z) ∧ w.cell? ⟨g, k, none⟩ = some (.int .u8 (at_ xs k : Nat)) ∧ w.frozen? ⟨g, k, none⟩ = false ∧ base ≤ g := by
  obtain ⟨hb, hl, ⟨h1, _⟩ | ⟨g', cap', cur, h1, hbase, hg, hn, hm, hs, ht⟩⟩ := h
  · cases h1
  simp only [Value.slice.injEq, Option.some.injEq, Addr.mk.injEq] at h1
  obtain ⟨⟨rfl, _⟩, _, rfl⟩ := h1
  have hc : w.cell? ⟨g, k, none⟩ = some (.int .u8 (at_ xs k : Nat)) := by
    rw [cell_of_row _ _ _ _ _ _ hg]
    have h1 : (xs.map fun n : Nat => Value.int .u8 (n : Int))[k]? = some (.int .u8 (at_ xs k : Nat)) := by simp [at_, List.getD, hk]
    rw [← ht, List.getElem?_take_of_lt (by omega)] at h1
    simpa using h1
  refine ⟨⟨fun y hy => ?_, by simp, .inr ⟨g, cap, cur.setIfInBounds k (.int .u8 (z : Nat)), by simp, hbase, ?_, by simpa using hn, hm, by simpa using hs, ?_⟩⟩, hc, frozen_block hg k, hbase⟩
  · rcases List.mem_or_eq_of_mem_set hy with h | h
    · exact hb y h
    · rw [h]; exact hz
  · rw [setCell_eq_setRow w g k _ _ _ _ hg]
    exact setRow_heap w g _ _ _ _ hg
  · rw [List.length_set, Array.toList_setIfInBounds, List.map_set, ← ht, List.take_set]
set_option maxRecDepth 100000 in
theorem add_all : alln (fun a => alln (fun b => Nat.beq (a % 128 * 2 + b / 128) (Nat.xor (a * 2 % 256) (b / 128))) 256) 256 = true := by decide +kernel
set_option maxRecDepth 100000 in
theorem dbe_add {m : List Nat} (hm : Bts 16 m) (i : Nat) : at_ m i % 128 * 2 + topd m i = dbe m i := by
  unfold topd dbe
  cases Nat.beq i 0
  · exact Nat.eq_of_beq_eq_true (alln_of (alln_of add_all _ (hm.at_lt i)) _ (hm.at_lt (i - 1)))
  · show at_ m i % 128 * 2 + 0 = Nat.xor (at_ m i * 2 % 256) 0
    rw [x0]; omega
set_option maxRecDepth 100000 in
theorem dbm_zero_top {m : List Nat} (h : topd m 16 = 0) : tab 16 (dbe m) = dbm m := by
  unfold dbm
  refine tab_congr fun i _ => ?_
  rcases i with _ | i
  · show dbe m 0 = Nat.xor (dbe m 0) (at_ m 15 / 128 * 135)
    have : at_ m 15 / 128 = 0 := h
    rw [this, Nat.zero_mul, x0]
  · rfl
set_option maxRecDepth 100000 in
theorem dbm_one_top {m : List Nat} (h : topd m 16 = 1) : (tab 16 (dbe m)).set 0 (Nat.xor (dbe m 0) 135) = dbm m := by
  have e := dbm_row (m := m)
  rw [fillr_all] at e
  have : at_ m 15 / 128 = 1 := h
  rw [this, Nat.one_mul] at e
  exact e
set_option maxRecDepth 100000 in
set_option maxHeartbeats 2000000 in
theorem refDouble (m : List Nat) (hm : Bts 16 m) (b o cap : Nat) (w : World) (hc : ∀ i, i < 16 → w.cell? ⟨b, o + i, none⟩ = some (.int .u8 (at_ m i : Nat))) : Calls Tryd.prog 64 #[.slice (some ⟨b, o, none⟩) 16 cap] w (OwnP w (dbm m)) := by
  have HM := Lib.hid hm
  have HC := Lib.hid hc
  have LB : Hid (b < w.heap.size) := World.block_lt_of_cell? w _ (hc 0 (by omega))
  clear hm hc
  go_enter Tryd.func64, Tryd.ntmps64
  go_wp2_with fail
  go_loopw [3, 4, 5] (fun v vt vi wr => ∃ (i : Nat) (q : Option Addr) (c : Nat), i ≤ 16 ∧ vi = .int .i64 i ∧ vt = .int .u8 (topd m i : Nat) ∧ v = .slice q i c ∧ Own wr w.heap.size (.slice q i c) (tab i (dbe m)) ∧ Below w.heap.size w wr) (fun _ _ vi _ => 16 - (intOf vi).toNat)
  case atStart => exact ⟨0, none, 0, by omega, rfl, rfl, rfl, own_nil _ _, Below.refl _ _⟩
  case round =>
    obtain ⟨i, q, c, hi, rfl, rfl, rfl, ho, hb⟩ := hrel
    by_cases hlt : i < 16
    · have hi16 : (i : Int) < 16 := by omega
      have cx := (hb.cell (p := ⟨b, o + i, none⟩) LB.out).trans (HC.out i hlt)
      have xl := HM.out.at_lt i
      have tl := topd_lt HM.out i
      have da := dbe_add HM.out i
      have dl := dbe_lt HM.out i
      obtain ⟨q1, c1, w1, hr, ho1, hb1⟩ := ho.push dl (by rw [tab_len]; omega) hb.size
      rw [← tab_succ, tab_len] at ho1
      rw [tab_len] at hr
      have TS := Lib.hid (topd_succ m i)
      have HO := Lib.hid ho1
      have HB := Lib.hid (hb.trans hb1)
      have cy := (hb1.cell (p := ⟨b, o + i, none⟩) LB.out).trans cx
      rw [← da] at hr
      have HR := Lib.hid hr
      have hw1 := hb1.size
      clear ho ho1 hb hb1 hr dl da
      generalize topd m i = t at *
      generalize at_ m i = x at *
      have xl' : (x : Int) < 256 := by omega
      have tl' : (t : Int) < 2 := by omega
      push_cast at HR
      go_wp2_with (at_builtin; refine wpList_app rfl _ _ rfl rfl rfl rfl HR.out ?_)
      go_roundw
      case rel =>
        refine ⟨i + 1, q1, c1, by omega, by go_num, ?_, rfl, HO.out, HB.out⟩
        rw [TS.out]; simp
      case measure => simp [intOf]; omega
    · obtain rfl : i = 16 := by omega
      have tl := topd_lt HM.out 16
      by_cases h0 : topd m 16 = 0
      · rw [dbm_zero_top h0] at ho
        have HO := Lib.hid ho
        have HB := Lib.hid hb
        have hl : Hid ((dbm m).length = 16) := (dbm_bts HM.out).1
        have tz : ¬ ((0 : Int) < (topd m 16 : Int)) := by omega
        clear ho hb h0
        go_wp2_with fail
        go_ret
        unfold OwnP
        rw [hl.out]
        exact ⟨q, c, rfl, HO.out, HB.out⟩
      · have h1 : topd m 16 = 1 := by omega
        have hne : tab 16 (dbe m) ≠ [] := fun e => by have := congrArg List.length e; rw [tab_len] at this; simp at this
        obtain ⟨g, o2, rfl, k1, k2, k3, k4⟩ := ho.sees.cells hne
        clear k1 k2 k3 k4
        have hq0 : o2 = 0 := by
          obtain ⟨_, _, ⟨hq, _⟩ | ⟨g2, cap2, cur, hq, _⟩⟩ := id ho
          · cases hq
          · simp only [Value.slice.injEq, Option.some.injEq, Addr.mk.injEq] at hq
            exact hq.1.2.1
        subst hq0
        have dl := dbe_lt HM.out 0
        have hx := xor8 (dbe m 0) 135 dl (by omega)
        have zl := xor_lt dl (show 135 < 256 by omega)
        have os := own_set (k := 0) (xs := tab 16 (dbe m)) (by rw [tab_len]; exact ho) (by rw [tab_len]; omega) (Nat.xor (dbe m 0) 135) zl
        rw [dbm_one_top h1, tab_len, tab_at _ _ _ (by omega)] at os
        obtain ⟨os1, os2, os3, os4⟩ := os
        have HO := Lib.hid os1
        have HX : Hid (bits .xor .u8 (dbe m 0 : Int) 135 = ((Nat.xor (dbe m 0) 135 : Nat) : Int)) := hx
        have HB : Hid (Below w.heap.size w (wr.setCell ⟨g, 0, none⟩ (.int .u8 (Nat.xor (dbe m 0) 135 : Nat)))) := hb.setCell os4 _
        have hl : Hid ((dbm m).length = 16) := (dbm_bts HM.out).1
        have tz : (0 : Int) < (topd m 16 : Int) := by omega
        have dl' : (dbe m 0 : Int) < 256 := by omega
        clear ho hb h0 h1 hne hx os1 os4 zl
        generalize Nat.xor (dbe m 0) 135 = z at *
        generalize dbe m 0 = d at *
        generalize topd m 16 = t at *
        have hxx := HX.out
        clear HX tl hi hlt
        go_wp2_with fail
        go_ret
        unfold OwnP
        rw [hl.out]
        exact ⟨_, _, rfl, HO.out, HB.out⟩
set_option maxRecDepth 100000 in
theorem twk_tab {s : Nat} (hs : s < 18446744073709551616) : tab 16 (fun i => s / 256 ^ i % 256) = twk s := by
  unfold twk
  refine tab_congr fun i hi => ?_
  by_cases h : i < 8
  · rw [show Nat.blt i 8 = true from Nat.ble_eq_true_of_le h, show (256 : Nat) = 2 ^ 8 from rfl, ← Nat.pow_mul]; rfl
  · rw [show Nat.blt i 8 = false from Bool.eq_false_iff.2 (fun e => h (Nat.le_of_ble_eq_true e))]
    have : s < 256 ^ i := Nat.lt_of_lt_of_le hs (Nat.le_trans (show 18446744073709551616 ≤ 256 ^ 8 by decide) (Nat.pow_le_pow_right (by omega) (by omega)))
    rw [Nat.div_eq_of_lt this]; rfl
set_option maxRecDepth 100000 in
set_option maxHeartbeats 2000000 in
theorem refTweak (s : Nat) (hs : s < 18446744073709551616) (w : World) : Calls Tryd.prog 38 #[.int .u64 s] w (OwnP w (twk s)) := by
  have TT := Lib.hid (twk_tab hs)
  go_enter Tryd.func38, Tryd.ntmps38
  go_wp2_with fail
  go_loopw [0, 3, 4] (fun vs v vi wr => ∃ (i : Nat) (q : Option Addr) (c : Nat), i ≤ 16 ∧ vi = .int .i64 i ∧ vs = .int .u64 (s / 256 ^ i : Nat) ∧ v = .slice q i c ∧ Own wr w.heap.size (.slice q i c) (tab i (fun i => s / 256 ^ i % 256)) ∧ Below w.heap.size w wr) (fun _ _ vi _ => 16 - (intOf vi).toNat)
  case atStart => exact ⟨0, none, 0, by omega, rfl, by simp, rfl, own_nil _ _, Below.refl _ _⟩
  case round =>
    obtain ⟨i, q, c, hi, rfl, rfl, rfl, ho, hb⟩ := hrel
    by_cases hlt : i < 16
    · have hi16 : (i : Int) < 16 := by omega
      have hd : s / 256 ^ i < 18446744073709551616 := Nat.lt_of_le_of_lt (Nat.div_le_self _ _) hs
      obtain ⟨q1, c1, w1, hr, ho1, hb1⟩ := ho.push (x := s / 256 ^ i % 256) (Nat.mod_lt _ (by omega)) (by rw [tab_len]; omega) hb.size
      rw [← tab_succ i (fun i => s / 256 ^ i % 256), tab_len] at ho1
      rw [tab_len] at hr
      have hn : s / 256 ^ (i + 1) = s / 256 ^ i / 256 := by rw [Nat.div_div_eq_div_mul, Nat.pow_succ]
      have HN := Lib.hid hn
      have HO := Lib.hid ho1
      have HB := Lib.hid (hb.trans hb1)
      have HR := Lib.hid hr
      clear ho ho1 hb hb1 hr hn
      generalize s / 256 ^ i = d at *
      have e8 : IntKind.u8.wrap ((d : Int) % 256) = (d : Int) % 256 := by
        have := u8nat (d % 256) (Nat.mod_lt _ (by omega)); push_cast at this; exact this
      push_cast at HR
      go_wp2_with (at_builtin; refine wpList_app rfl _ _ rfl rfl rfl rfl HR.out ?_)
      go_roundw
      case rel =>
        refine ⟨i + 1, q1, c1, by omega, by go_num, ?_, rfl, HO.out, HB.out⟩
        rw [HN.out]; simp
      case measure => simp [intOf]; omega
    · obtain rfl : i = 16 := by omega
      rw [TT.out] at ho
      have HO := Lib.hid ho
      have HB := Lib.hid hb
      have hl : Hid ((twk s).length = 16) := (twk_bts s).1
      clear ho hb
      go_wp2_with fail
      go_ret
      unfold OwnP
      rw [hl.out]
      exact ⟨q, c, rfl, HO.out, HB.out⟩
end Go.Proofs.YtpkeofioobmmoaaDoor.ae
