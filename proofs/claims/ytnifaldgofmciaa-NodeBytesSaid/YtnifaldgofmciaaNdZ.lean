/-
  Contracts of slices.Grow of nil and of slices.Concat, of keys, of values and of kids. Condition: the slices read as rows, no more than a thousand of them.
-/
import Derived.Test.YtnifaldgofmciaaNdY
namespace Go.Proofs.Ytnifaldgofmciaa
open Go.RowKit
theorem one_key (x : Int) : ∀ c ∈ key1 x, c.oneCell' = true := by simp [key1, Value.oneCell']
theorem one_val (x : List Int) : ∀ c ∈ val x, c.oneCell' = true := by simp [val, Value.oneCell']
theorem one_kid (x : Int × List Int) : ∀ c ∈ kid x, c.oneCell' = true := by simp [kid, Value.oneCell']
/-- A slice of no rows with room, of the call's own. -/
theorem own_none {w : World} {base g cap : Nat} {E size : Nat} {cur : Array Value} (hb : base ≤ g) (hg : w.heap[g]? = some (.cells cur E (0, 0))) (hm : cap ≤ maxLen) (hs : cur.size = cap * size) : w.ownsRow base E size (.slice (some ⟨g, 0, none⟩) 0 cap) 0 [] :=
  ⟨by simp, .inr ⟨g, cap, cur, rfl, hb, hg, Nat.zero_le _, hm, hs, by simp⟩⟩
def GrowP (w : World) (E size : Nat) (e : Ending) (w' : World) : Prop := ∃ x c, e = .returned (.slice x 0 c) ∧ w'.ownsRow w.heap.size E size (.slice x 0 c) 0 [] ∧ Below w.heap.size w w'
/-- The slices among which slices.Concat goes, and what they read as. -/
def Parts {α : Type} (f : α → List Value) (e : Nat) (w : World) (ps : List (Value × List α)) : Prop := ∀ p ∈ ps, ES f e w p.1 p.2
def ConcP {α : Type} (f : α → List Value) (e : Nat) (w : World) (xs : List α) (r : Ending) (w' : World) : Prop := ∃ v, r = .returned v ∧ ES f e w' v xs ∧ capOk v ∧ fresh w.heap.size v ∧ Below w.heap.size w w'
theorem take_flat {α β : Type} (ps : List (β × List α)) (i : Nat) (p : β × List α) (h : ps[i]? = some p) : (ps.take (i + 1)).flatMap (·.2) = (ps.take i).flatMap (·.2) ++ p.2 := by
  rw [List.take_add_one, h, List.flatMap_append]
  simp
theorem take_flat_le {α β : Type} (ps : List (β × List α)) (i : Nat) : ((ps.take i).flatMap (·.2)).length ≤ (ps.flatMap (·.2)).length := by
  conv => rhs; rw [← List.take_append_drop i ps, List.flatMap_append, List.length_append]
  omega
set_option maxRecDepth 100000 in
set_option maxHeartbeats 4000000 in
theorem growK (n : Nat) (w : World) (hn : n ≤ 1000) : Calls Try.prog 54 #[.slice none 0 0, .int .i64 (n : Int)] w (GrowP w 52 1) := by
  obtain ⟨i, hi, hz0, hz1, hz2⟩ := info_parts info52
  have hni : (n : Int) ≤ 1000 := by omega
  have h0 : ¬ ((n : Int) < 0) := by omega
  by_cases hp : n = 0
  · subst hp
    go_enter Try.func54, Try.ntmps54
    go_wp2_with fail
    go_ret
    exact ⟨none, 0, rfl, World.ownsRow_nil w _ _ _, Below.refl _ _⟩
  · have hpos : (0 : Int) < (n : Int) := by omega
    have hr := Lib.run_append_grow_zeros w 22 3 22 52 i (.int .u64 0) .i64 .i64 Try.underlying22 (by kernel_rfl) hi hz0 none 0 0 [] (run_firstCells_none w.drew i.size 0 0 0) n (by omega) (by rw [hz1]; decide) (by omega) (by omega)
      (by rw [hz2]; omega) (growslice_fits (by omega) (by rw [hz2]; omega))
    rw [Nat.zero_add] at hr
    obtain ⟨G, hG⟩ : ∃ G, G = grownCap w n 0 52 := ⟨_, rfl⟩
    have hge := grownCap_ge w n 0 52
    have hle := grownCap_le_maxLen w n 0 52 (by unfold maxLen; omega)
    obtain ⟨C, hC⟩ : ∃ C : Array Value, C = (([] : List Value).toArray ++ Builtin.zeroCells (Value.cells (.int .u64 0)) n ++ Builtin.zeroCells (Value.cells (.int .u64 0)) (grownCap w n 0 52 - n)) := ⟨_, rfl⟩
    have hCs : C.size = G * 1 := by
      rw [hC, hG]
      simp only [Array.size_append, size_zeroCells, List.size_toArray, List.length_nil]
      rw [show (Value.cells (.int .u64 0)).size = 1 from rfl, Nat.zero_add, ← Nat.add_mul]
      congr 1
      omega
    rw [← hC, ← hG] at hr
    rw [← hG] at hge hle
    have hle2 : G ≤ 9223372036854775807 := by unfold maxLen at hle; omega
    obtain ⟨w1, hw1⟩ : ∃ w1, w1 = w.drew.alloc (.cells C 52) := ⟨_, rfl⟩
    have FIN : Hid (w1.ownsRow w.heap.size 52 1 (.slice (some ⟨w.heap.size, 0, none⟩) 0 G) 0 [] ∧ Below w.heap.size w w1) := by
      refine ⟨own_none (Nat.le_refl _) (by rw [hw1]; exact heap_alloc_new w.drew _) hle hCs, ?_⟩
      rw [hw1]
      exact (Below.refl _ _).drew.alloc (by simp) _
    have HR : Hid ((Builtin.append_ #[22, 3] 22 #[.slice none 0 0, .int .i64 (n : Int)]).run Try.prog w = .ok (.slice (some ⟨w.heap.size, 0, none⟩) n G) w1) := by show _ = _; rw [hw1]; exact hr
    have hnG : n ≤ G := hge
    have HS : Hid ((Instr.slice 22 (.slice (some ⟨w.heap.size, 0, none⟩) n G) none (some (.int .i64 0)) none).run Try.prog w1 = .ok (.slice (some ⟨w.heap.size, 0, none⟩) 0 G) w1) := by
      show _ = _
      rw [run_slice_h w1 22 _ n G (by kernel_rfl) .i64 0 (by omega) (by omega), show (sizeOf (Try.prog.elem 22)).run Try.prog w1 = .ok 1 w1 by kernel_rfl]
      simp [Result.andThen, sliced, add_plain]
    have hs := HS.out
    clear hr hG hC hCs hge hle hle2 hw1 hnG hp HS

    go_enter Try.func54, Try.ntmps54
    go_wp2_with (at_builtin; refine Lib.wpList_append_run _ rfl _ _ _ _ rfl _ _ rfl rfl _ _ HR.out ?_)
    go_ret
    exact ⟨_, G, rfl, FIN.out.1, FIN.out.2⟩
set_option maxRecDepth 100000 in
set_option maxHeartbeats 8000000 in
theorem concK (ps : List (Value × List Int)) (P : Array Value) (g : Nat) (w : World) (hg : w.heap[g]? = some (.cells P 22 (0, 0))) (hP : P.toList = ps.map (·.1)) (hp : Parts key1 1 w ps) (hl : (ps.flatMap (·.2)).length ≤ 1000) (hm : ps.length ≤ 10) :
    Calls Try.prog 39 #[.slice (some ⟨g, 0, none⟩) ps.length ps.length] w (ConcP key1 1 w (ps.flatMap (·.2))) := by
  obtain ⟨m, hmm⟩ : ∃ m, m = ps.length := ⟨_, rfl⟩
  have PART : Hid (∀ i, i < m → ∃ p : Value × List Int, ps[i]? = some p ∧ ES key1 1 w p.1 p.2 ∧ P[i]? = some p.1) := fun i hi => by
    refine ⟨ps[i]'(by omega), List.getElem?_eq_getElem (by omega), hp _ (List.getElem_mem _), ?_⟩
    have : P.toList[i]? = some (ps[i]'(by omega)).1 := by rw [hP, List.getElem?_map, List.getElem?_eq_getElem (by omega)]; rfl
    simpa using this
  have FLAT := Lib.hid (take_flat ps)
  have FLE := Lib.hid (fun i => Nat.le_trans (take_flat_le ps i) hl)
  have ALL : Hid ((ps.take m).flatMap (·.2) = ps.flatMap (·.2)) := by show _ = _; rw [hmm, List.take_length]
  have ROW := Lib.hid hg
  have LEN : Hid (∀ y ∈ ps.flatMap (·.2), (key1 y).length = 1) := fun y hy => by
    obtain ⟨p, hpm, hy2⟩ := List.mem_flatMap.1 hy
    exact (hp p hpm).2.1 y hy2
  have GRW := Lib.hid (fun (n : Nat) (h : n ≤ 1000) => growK n w h)
  have hmi : (m : Int) ≤ 10 := by omega
  rw [← hmm] at hm ⊢
  generalize ps.flatMap (·.2) = L at *
  clear hg hP hp hl hmm
  go_enter Try.func39, Try.ntmps39
  go_wp2_with fail
  go_loop [3, 11] (fun v3 v11 => ∃ i : Nat, i ≤ m ∧ v11 = .int .i64 (i : Int) ∧ v3 = .int .i64 (((ps.take i).flatMap (·.2)).length : Int)) (fun _ v11 => m - (intOf v11).toNat)
  case atStart => exact ⟨0, by omega, rfl, rfl⟩
  case round =>
    obtain ⟨i, hi, rfl, rfl⟩ := hrel
    have hle := FLE.out i
    obtain ⟨s, hs⟩ : ∃ s, s = ((ps.take i).flatMap (·.2)).length := ⟨_, rfl⟩
    rw [← hs] at hle ⊢
    by_cases hlt : i < m
    · have hii : (i : Int) < (m : Int) := by omega
      obtain ⟨p, hpi, hes, hPi⟩ := PART.out i hlt
      obtain ⟨x, c, hv⟩ := hes.len
      have hc := (cell_row ROW.out i).trans hPi
      rw [hv] at hc
      have hle2 := FLE.out (i + 1)
      have EQ : Hid ((((ps.take (i + 1)).flatMap (·.2)).length : Int) = (s : Int) + (p.2.length : Int)) := by show _ = _; rw [FLAT.out i p hpi, List.length_append, hs]; omega
      rw [FLAT.out i p hpi, List.length_append, ← hs] at hle2
      have hh : ¬ ((s : Int) + (p.2.length : Int) < 0) := by omega
      have hle3 : (s : Int) + (p.2.length : Int) ≤ 1000 := by omega
      generalize p.2.length = l at *
      clear hpi hes hPi hv hle hle2 hs
      go_wp2_with fail
      go_round
      case rel => exact ⟨i + 1, by omega, by go_num, by rw [EQ.out]⟩
      case measure => simp [intOf]; omega
    · have hge : ¬ (i : Int) < (m : Int) := by omega
      obtain rfl : i = m := by omega
      have HSS := Lib.hid hs
      clear hs
      go_wp2_with fail
      refine (GRW.out s hle).mono ?_
      rintro e w1 ⟨x, c, rfl, how, hb⟩
      have HOW := Lib.hid how
      have HB := Lib.hid hb
      clear how hb
      go_wp2_with fail
      go_loopw [6, 27] (fun v6 v27 wr => ∃ k : Nat, k ≤ i ∧ v27 = .int .i64 (k : Int) ∧ ∃ x c, v6 = .slice x ((ps.take k).flatMap (·.2)).length c ∧ wr.ownsRow w.heap.size 52 1 v6 ((ps.take k).flatMap (·.2)).length (((ps.take k).flatMap (·.2)).flatMap key1) ∧ Below w.heap.size w wr) (fun _ v27 _ => i - (intOf v27).toNat)
      case atStart => exact ⟨0, by omega, rfl, x, c, rfl, HOW.out, HB.out⟩
      case round =>
        obtain ⟨k, hk, rfl, x2, c2, rfl, how, hb⟩ := hrel
        have HO := Lib.hid how
        have HBW := Lib.hid hb
        clear how hb
        by_cases hlk : k < i
        · have hkk : (k : Int) < (i : Int) := by omega
          obtain ⟨p, hpk, hes, hPk⟩ := PART.out k hlk
          have hle2 := FLE.out (k + 1)
          have EQF := Lib.hid (FLAT.out k p hpk)
          rw [EQF.out, List.length_append] at hle2
          have hbl : g < w.heap.size := (Array.getElem?_eq_some_iff.1 ROW.out).1
          have hc := ((HBW.out.cell (p := ⟨g, k, none⟩) hbl).trans (cell_row ROW.out k)).trans hPk
          obtain ⟨i0, hi0, hz0, hz1, hz2⟩ := info_parts info52
          obtain ⟨v', w', hr, ho', hgr⟩ := appRows Try.underlying22 info52 rfl (by decide) HO.out (hes.below HBW.out) (fun x _ => one_key x) hle2 (by decide) HBW.out.size
          obtain ⟨x3, n3, c3, hv3, _, _⟩ := capOk_own ho'
          obtain rfl : n3 = ((ps.take k).flatMap (·.2)).length + p.2.length := by
            obtain ⟨_, ⟨e1, e2⟩ | ⟨_, _, _, e1, _⟩⟩ := ho'
            · rw [hv3] at e1; cases e1; omega
            · rw [hv3] at e1; cases e1; rfl
          have HR := Lib.hid hr
          have HO2 : Hid (w'.ownsRow w.heap.size 52 1 v' ((ps.take (k + 1)).flatMap (·.2)).length (((ps.take (k + 1)).flatMap (·.2)).flatMap key1)) := by
            rw [EQF.out, List.length_append]; exact ho'
          have HB2 : Hid (Below w.heap.size w w') := HBW.out.grown hgr HBW.out.size (fun b e => (HO.out.lt b e).1)
          have HV : Hid (v' = .slice x3 ((ps.take (k + 1)).flatMap (·.2)).length c3) := by show _ = _; rw [EQF.out, List.length_append]; exact hv3
          obtain ⟨x, c, hv⟩ := hes.len
          rw [hv] at hc HR
          generalize p.2.length = l at *
          generalize ((ps.take k).flatMap (·.2)).length = s2 at *
          clear hpk hes hPk hr ho' hgr hv3 hv hle2 hi0 hz0 hz1 hz2 EQF hbl HO
          go_wp2_with (at_builtin; refine wpList_appK 22 rfl _ _ rfl rfl rfl rfl HR.out ?_)
          go_roundw
          case rel => exact ⟨k + 1, by omega, by go_num, x3, c3, HV.out, HO2.out, HB2.out⟩
          case measure => simp [intOf]; omega
        · have hge2 : ¬ (k : Int) < (i : Int) := by omega
          obtain rfl : k = i := by omega
          have FIN : Hid (ES key1 1 wr (.slice x2 ((ps.take k).flatMap (·.2)).length c2) L ∧ capOk (.slice x2 ((ps.take k).flatMap (·.2)).length c2) ∧ fresh w.heap.size (.slice x2 ((ps.take k).flatMap (·.2)).length c2)) := by
            refine ⟨?_, capOk_own HO.out, fun b e => (HO.out.lt b e).1⟩
            have h1 := HO.out
            rw [ALL.out] at h1 ⊢
            have h2 := FLE.out k
            rw [ALL.out] at h2
            exact es_own h1 LEN.out rfl (by omega)
          clear HO
          generalize ((ps.take k).flatMap (·.2)).length = s2 at FIN ⊢
          go_wp2_with fail
          go_ret
          exact ⟨_, rfl, FIN.out.1, FIN.out.2.1, FIN.out.2.2, HBW.out⟩
set_option maxRecDepth 100000 in
set_option maxHeartbeats 4000000 in
theorem growV (n : Nat) (w : World) (hn : n ≤ 1000) : Calls Try.prog 55 #[.slice none 0 0, .int .i64 (n : Int)] w (GrowP w 54 44) := by
  obtain ⟨i, hi, hz0, hz1, hz2⟩ := info_parts info54
  have hni : (n : Int) ≤ 1000 := by omega
  have h0 : ¬ ((n : Int) < 0) := by omega
  by_cases hp : n = 0
  · subst hp
    go_enter Try.func55, Try.ntmps55
    go_wp2_with fail
    go_ret
    exact ⟨none, 0, rfl, World.ownsRow_nil w _ _ _, Below.refl _ _⟩
  · have hpos : (0 : Int) < (n : Int) := by omega
    have hr := Lib.run_append_grow_zeros w 23 3 23 54 i (.agg (val (List.replicate 44 0)).toArray) .i64 .i64 Try.underlying23 (by kernel_rfl) hi hz0 none 0 0 [] (run_firstCells_none w.drew i.size 0 0 0) n (by omega) (by rw [hz1]; decide) (by omega) (by omega)
      (by rw [hz2]; omega) (growslice_fits (by omega) (by rw [hz2]; omega))
    rw [Nat.zero_add] at hr
    obtain ⟨G, hG⟩ : ∃ G, G = grownCap w n 0 54 := ⟨_, rfl⟩
    have hge := grownCap_ge w n 0 54
    have hle := grownCap_le_maxLen w n 0 54 (by unfold maxLen; omega)
    obtain ⟨C, hC⟩ : ∃ C : Array Value, C = (([] : List Value).toArray ++ Builtin.zeroCells (Value.cells (.agg (val (List.replicate 44 0)).toArray)) n ++ Builtin.zeroCells (Value.cells (.agg (val (List.replicate 44 0)).toArray)) (grownCap w n 0 54 - n)) := ⟨_, rfl⟩
    have hCs : C.size = G * 44 := by
      rw [hC, hG]
      simp only [Array.size_append, size_zeroCells, List.size_toArray, List.length_nil]
      rw [show (Value.cells (.agg (val (List.replicate 44 0)).toArray)).size = 44 from (by kernel_rfl), Nat.zero_add, ← Nat.add_mul]
      congr 1
      omega
    rw [← hC, ← hG] at hr
    rw [← hG] at hge hle
    have hle2 : G ≤ 9223372036854775807 := by unfold maxLen at hle; omega
    obtain ⟨w1, hw1⟩ : ∃ w1, w1 = w.drew.alloc (.cells C 54) := ⟨_, rfl⟩
    have FIN : Hid (w1.ownsRow w.heap.size 54 44 (.slice (some ⟨w.heap.size, 0, none⟩) 0 G) 0 [] ∧ Below w.heap.size w w1) := by
      refine ⟨own_none (Nat.le_refl _) (by rw [hw1]; exact heap_alloc_new w.drew _) hle hCs, ?_⟩
      rw [hw1]
      exact (Below.refl _ _).drew.alloc (by simp) _
    have HR : Hid ((Builtin.append_ #[23, 3] 23 #[.slice none 0 0, .int .i64 (n : Int)]).run Try.prog w = .ok (.slice (some ⟨w.heap.size, 0, none⟩) n G) w1) := by show _ = _; rw [hw1]; exact hr
    have hnG : n ≤ G := hge
    have HS : Hid ((Instr.slice 23 (.slice (some ⟨w.heap.size, 0, none⟩) n G) none (some (.int .i64 0)) none).run Try.prog w1 = .ok (.slice (some ⟨w.heap.size, 0, none⟩) 0 G) w1) := by
      show _ = _
      rw [run_slice_h w1 23 _ n G (by kernel_rfl) .i64 0 (by omega) (by omega), show (sizeOf (Try.prog.elem 23)).run Try.prog w1 = .ok 44 w1 by kernel_rfl]
      simp [Result.andThen, sliced, add_plain]
    have hs := HS.out
    clear hr hG hC hCs hge hle hle2 hw1 hnG hp HS

    go_enter Try.func55, Try.ntmps55
    go_wp2_with (at_builtin; refine Lib.wpList_append_run _ rfl _ _ _ _ rfl _ _ rfl rfl _ _ HR.out ?_)
    go_ret
    exact ⟨_, G, rfl, FIN.out.1, FIN.out.2⟩
set_option maxRecDepth 100000 in
set_option maxHeartbeats 8000000 in
theorem concV (ps : List (Value × List (List Int))) (P : Array Value) (g : Nat) (w : World) (hg : w.heap[g]? = some (.cells P 23 (0, 0))) (hP : P.toList = ps.map (·.1)) (hp : Parts val 44 w ps) (hl : (ps.flatMap (·.2)).length ≤ 1000) (hm : ps.length ≤ 10) :
    Calls Try.prog 40 #[.slice (some ⟨g, 0, none⟩) ps.length ps.length] w (ConcP val 44 w (ps.flatMap (·.2))) := by
  obtain ⟨m, hmm⟩ : ∃ m, m = ps.length := ⟨_, rfl⟩
  have PART : Hid (∀ i, i < m → ∃ p : Value × List (List Int), ps[i]? = some p ∧ ES val 44 w p.1 p.2 ∧ P[i]? = some p.1) := fun i hi => by
    refine ⟨ps[i]'(by omega), List.getElem?_eq_getElem (by omega), hp _ (List.getElem_mem _), ?_⟩
    have : P.toList[i]? = some (ps[i]'(by omega)).1 := by rw [hP, List.getElem?_map, List.getElem?_eq_getElem (by omega)]; rfl
    simpa using this
  have FLAT := Lib.hid (take_flat ps)
  have FLE := Lib.hid (fun i => Nat.le_trans (take_flat_le ps i) hl)
  have ALL : Hid ((ps.take m).flatMap (·.2) = ps.flatMap (·.2)) := by show _ = _; rw [hmm, List.take_length]
  have ROW := Lib.hid hg
  have LEN : Hid (∀ y ∈ ps.flatMap (·.2), (val y).length = 44) := fun y hy => by
    obtain ⟨p, hpm, hy2⟩ := List.mem_flatMap.1 hy
    exact (hp p hpm).2.1 y hy2
  have GRW := Lib.hid (fun (n : Nat) (h : n ≤ 1000) => growV n w h)
  have hmi : (m : Int) ≤ 10 := by omega
  rw [← hmm] at hm ⊢
  generalize ps.flatMap (·.2) = L at *
  clear hg hP hp hl hmm
  go_enter Try.func40, Try.ntmps40
  go_wp2_with fail
  go_loop [3, 11] (fun v3 v11 => ∃ i : Nat, i ≤ m ∧ v11 = .int .i64 (i : Int) ∧ v3 = .int .i64 (((ps.take i).flatMap (·.2)).length : Int)) (fun _ v11 => m - (intOf v11).toNat)
  case atStart => exact ⟨0, by omega, rfl, rfl⟩
  case round =>
    obtain ⟨i, hi, rfl, rfl⟩ := hrel
    have hle := FLE.out i
    obtain ⟨s, hs⟩ : ∃ s, s = ((ps.take i).flatMap (·.2)).length := ⟨_, rfl⟩
    rw [← hs] at hle ⊢
    by_cases hlt : i < m
    · have hii : (i : Int) < (m : Int) := by omega
      obtain ⟨p, hpi, hes, hPi⟩ := PART.out i hlt
      obtain ⟨x, c, hv⟩ := hes.len
      have hc := (cell_row ROW.out i).trans hPi
      rw [hv] at hc
      have hle2 := FLE.out (i + 1)
      have EQ : Hid ((((ps.take (i + 1)).flatMap (·.2)).length : Int) = (s : Int) + (p.2.length : Int)) := by show _ = _; rw [FLAT.out i p hpi, List.length_append, hs]; omega
      rw [FLAT.out i p hpi, List.length_append, ← hs] at hle2
      have hh : ¬ ((s : Int) + (p.2.length : Int) < 0) := by omega
      have hle3 : (s : Int) + (p.2.length : Int) ≤ 1000 := by omega
      generalize p.2.length = l at *
      clear hpi hes hPi hv hle hle2 hs
      go_wp2_with fail
      go_round
      case rel => exact ⟨i + 1, by omega, by go_num, by rw [EQ.out]⟩
      case measure => simp [intOf]; omega
    · have hge : ¬ (i : Int) < (m : Int) := by omega
      obtain rfl : i = m := by omega
      have HSS := Lib.hid hs
      clear hs
      go_wp2_with fail
      refine (GRW.out s hle).mono ?_
      rintro e w1 ⟨x, c, rfl, how, hb⟩
      have HOW := Lib.hid how
      have HB := Lib.hid hb
      clear how hb
      go_wp2_with fail
      go_loopw [6, 27] (fun v6 v27 wr => ∃ k : Nat, k ≤ i ∧ v27 = .int .i64 (k : Int) ∧ ∃ x c, v6 = .slice x ((ps.take k).flatMap (·.2)).length c ∧ wr.ownsRow w.heap.size 54 44 v6 ((ps.take k).flatMap (·.2)).length (((ps.take k).flatMap (·.2)).flatMap val) ∧ Below w.heap.size w wr) (fun _ v27 _ => i - (intOf v27).toNat)
      case atStart => exact ⟨0, by omega, rfl, x, c, rfl, HOW.out, HB.out⟩
      case round =>
        obtain ⟨k, hk, rfl, x2, c2, rfl, how, hb⟩ := hrel
        have HO := Lib.hid how
        have HBW := Lib.hid hb
        clear how hb
        by_cases hlk : k < i
        · have hkk : (k : Int) < (i : Int) := by omega
          obtain ⟨p, hpk, hes, hPk⟩ := PART.out k hlk
          have hle2 := FLE.out (k + 1)
          have EQF := Lib.hid (FLAT.out k p hpk)
          rw [EQF.out, List.length_append] at hle2
          have hbl : g < w.heap.size := (Array.getElem?_eq_some_iff.1 ROW.out).1
          have hc := ((HBW.out.cell (p := ⟨g, k, none⟩) hbl).trans (cell_row ROW.out k)).trans hPk
          obtain ⟨i0, hi0, hz0, hz1, hz2⟩ := info_parts info54
          obtain ⟨v', w', hr, ho', hgr⟩ := appRows Try.underlying23 info54 (by kernel_rfl) (by decide) HO.out (hes.below HBW.out) (fun x _ => one_val x) hle2 (by decide) HBW.out.size
          obtain ⟨x3, n3, c3, hv3, _, _⟩ := capOk_own ho'
          obtain rfl : n3 = ((ps.take k).flatMap (·.2)).length + p.2.length := by
            obtain ⟨_, ⟨e1, e2⟩ | ⟨_, _, _, e1, _⟩⟩ := ho'
            · rw [hv3] at e1; cases e1; omega
            · rw [hv3] at e1; cases e1; rfl
          have HR := Lib.hid hr
          have HO2 : Hid (w'.ownsRow w.heap.size 54 44 v' ((ps.take (k + 1)).flatMap (·.2)).length (((ps.take (k + 1)).flatMap (·.2)).flatMap val)) := by
            rw [EQF.out, List.length_append]; exact ho'
          have HB2 : Hid (Below w.heap.size w w') := HBW.out.grown hgr HBW.out.size (fun b e => (HO.out.lt b e).1)
          have HV : Hid (v' = .slice x3 ((ps.take (k + 1)).flatMap (·.2)).length c3) := by show _ = _; rw [EQF.out, List.length_append]; exact hv3
          obtain ⟨x, c, hv⟩ := hes.len
          rw [hv] at hc HR
          generalize p.2.length = l at *
          generalize ((ps.take k).flatMap (·.2)).length = s2 at *
          clear hpk hes hPk hr ho' hgr hv3 hv hle2 hi0 hz0 hz1 hz2 EQF hbl HO
          go_wp2_with (at_builtin; refine wpList_appK 23 rfl _ _ rfl rfl rfl rfl HR.out ?_)
          go_roundw
          case rel => exact ⟨k + 1, by omega, by go_num, x3, c3, HV.out, HO2.out, HB2.out⟩
          case measure => simp [intOf]; omega
        · have hge2 : ¬ (k : Int) < (i : Int) := by omega
          obtain rfl : k = i := by omega
          have FIN : Hid (ES val 44 wr (.slice x2 ((ps.take k).flatMap (·.2)).length c2) L ∧ capOk (.slice x2 ((ps.take k).flatMap (·.2)).length c2) ∧ fresh w.heap.size (.slice x2 ((ps.take k).flatMap (·.2)).length c2)) := by
            refine ⟨?_, capOk_own HO.out, fun b e => (HO.out.lt b e).1⟩
            have h1 := HO.out
            rw [ALL.out] at h1 ⊢
            have h2 := FLE.out k
            rw [ALL.out] at h2
            exact es_own h1 LEN.out rfl (by omega)
          clear HO
          generalize ((ps.take k).flatMap (·.2)).length = s2 at FIN ⊢
          go_wp2_with fail
          go_ret
          exact ⟨_, rfl, FIN.out.1, FIN.out.2.1, FIN.out.2.2, HBW.out⟩
set_option maxRecDepth 100000 in
set_option maxHeartbeats 4000000 in
theorem growQ (n : Nat) (w : World) (hn : n ≤ 1000) : Calls Try.prog 56 #[.slice none 0 0, .int .i64 (n : Int)] w (GrowP w 67 33) := by
  obtain ⟨i, hi, hz0, hz1, hz2⟩ := info_parts info67
  have hni : (n : Int) ≤ 1000 := by omega
  have h0 : ¬ ((n : Int) < 0) := by omega
  by_cases hp : n = 0
  · subst hp
    go_enter Try.func56, Try.ntmps56
    go_wp2_with fail
    go_ret
    exact ⟨none, 0, rfl, World.ownsRow_nil w _ _ _, Below.refl _ _⟩
  · have hpos : (0 : Int) < (n : Int) := by omega
    have hr := Lib.run_append_grow_zeros w 24 3 24 67 i (.agg (kid (0, List.replicate 32 0)).toArray) .i64 .i64 Try.underlying24 (by kernel_rfl) hi hz0 none 0 0 [] (run_firstCells_none w.drew i.size 0 0 0) n (by omega) (by rw [hz1]; decide) (by omega) (by omega)
      (by rw [hz2]; omega) (growslice_fits (by omega) (by rw [hz2]; omega))
    rw [Nat.zero_add] at hr
    obtain ⟨G, hG⟩ : ∃ G, G = grownCap w n 0 67 := ⟨_, rfl⟩
    have hge := grownCap_ge w n 0 67
    have hle := grownCap_le_maxLen w n 0 67 (by unfold maxLen; omega)
    obtain ⟨C, hC⟩ : ∃ C : Array Value, C = (([] : List Value).toArray ++ Builtin.zeroCells (Value.cells (.agg (kid (0, List.replicate 32 0)).toArray)) n ++ Builtin.zeroCells (Value.cells (.agg (kid (0, List.replicate 32 0)).toArray)) (grownCap w n 0 67 - n)) := ⟨_, rfl⟩
    have hCs : C.size = G * 33 := by
      rw [hC, hG]
      simp only [Array.size_append, size_zeroCells, List.size_toArray, List.length_nil]
      rw [show (Value.cells (.agg (kid (0, List.replicate 32 0)).toArray)).size = 33 from (by kernel_rfl), Nat.zero_add, ← Nat.add_mul]
      congr 1
      omega
    rw [← hC, ← hG] at hr
    rw [← hG] at hge hle
    have hle2 : G ≤ 9223372036854775807 := by unfold maxLen at hle; omega
    obtain ⟨w1, hw1⟩ : ∃ w1, w1 = w.drew.alloc (.cells C 67) := ⟨_, rfl⟩
    have FIN : Hid (w1.ownsRow w.heap.size 67 33 (.slice (some ⟨w.heap.size, 0, none⟩) 0 G) 0 [] ∧ Below w.heap.size w w1) := by
      refine ⟨own_none (Nat.le_refl _) (by rw [hw1]; exact heap_alloc_new w.drew _) hle hCs, ?_⟩
      rw [hw1]
      exact (Below.refl _ _).drew.alloc (by simp) _
    have HR : Hid ((Builtin.append_ #[24, 3] 24 #[.slice none 0 0, .int .i64 (n : Int)]).run Try.prog w = .ok (.slice (some ⟨w.heap.size, 0, none⟩) n G) w1) := by show _ = _; rw [hw1]; exact hr
    have hnG : n ≤ G := hge
    have HS : Hid ((Instr.slice 24 (.slice (some ⟨w.heap.size, 0, none⟩) n G) none (some (.int .i64 0)) none).run Try.prog w1 = .ok (.slice (some ⟨w.heap.size, 0, none⟩) 0 G) w1) := by
      show _ = _
      rw [run_slice_h w1 24 _ n G (by kernel_rfl) .i64 0 (by omega) (by omega), show (sizeOf (Try.prog.elem 24)).run Try.prog w1 = .ok 33 w1 by kernel_rfl]
      simp [Result.andThen, sliced, add_plain]
    have hs := HS.out
    clear hr hG hC hCs hge hle hle2 hw1 hnG hp HS

    go_enter Try.func56, Try.ntmps56
    go_wp2_with (at_builtin; refine Lib.wpList_append_run _ rfl _ _ _ _ rfl _ _ rfl rfl _ _ HR.out ?_)
    go_ret
    exact ⟨_, G, rfl, FIN.out.1, FIN.out.2⟩
set_option maxRecDepth 100000 in
set_option maxHeartbeats 8000000 in
theorem concQ (ps : List (Value × List (Int × List Int))) (P : Array Value) (g : Nat) (w : World) (hg : w.heap[g]? = some (.cells P 24 (0, 0))) (hP : P.toList = ps.map (·.1)) (hp : Parts kid 33 w ps) (hl : (ps.flatMap (·.2)).length ≤ 1000) (hm : ps.length ≤ 10) :
    Calls Try.prog 41 #[.slice (some ⟨g, 0, none⟩) ps.length ps.length] w (ConcP kid 33 w (ps.flatMap (·.2))) := by
  obtain ⟨m, hmm⟩ : ∃ m, m = ps.length := ⟨_, rfl⟩
  have PART : Hid (∀ i, i < m → ∃ p : Value × List (Int × List Int), ps[i]? = some p ∧ ES kid 33 w p.1 p.2 ∧ P[i]? = some p.1) := fun i hi => by
    refine ⟨ps[i]'(by omega), List.getElem?_eq_getElem (by omega), hp _ (List.getElem_mem _), ?_⟩
    have : P.toList[i]? = some (ps[i]'(by omega)).1 := by rw [hP, List.getElem?_map, List.getElem?_eq_getElem (by omega)]; rfl
    simpa using this
  have FLAT := Lib.hid (take_flat ps)
  have FLE := Lib.hid (fun i => Nat.le_trans (take_flat_le ps i) hl)
  have ALL : Hid ((ps.take m).flatMap (·.2) = ps.flatMap (·.2)) := by show _ = _; rw [hmm, List.take_length]
  have ROW := Lib.hid hg
  have LEN : Hid (∀ y ∈ ps.flatMap (·.2), (kid y).length = 33) := fun y hy => by
    obtain ⟨p, hpm, hy2⟩ := List.mem_flatMap.1 hy
    exact (hp p hpm).2.1 y hy2
  have GRW := Lib.hid (fun (n : Nat) (h : n ≤ 1000) => growQ n w h)
  have hmi : (m : Int) ≤ 10 := by omega
  rw [← hmm] at hm ⊢
  generalize ps.flatMap (·.2) = L at *
  clear hg hP hp hl hmm
  go_enter Try.func41, Try.ntmps41
  go_wp2_with fail
  go_loop [3, 11] (fun v3 v11 => ∃ i : Nat, i ≤ m ∧ v11 = .int .i64 (i : Int) ∧ v3 = .int .i64 (((ps.take i).flatMap (·.2)).length : Int)) (fun _ v11 => m - (intOf v11).toNat)
  case atStart => exact ⟨0, by omega, rfl, rfl⟩
  case round =>
    obtain ⟨i, hi, rfl, rfl⟩ := hrel
    have hle := FLE.out i
    obtain ⟨s, hs⟩ : ∃ s, s = ((ps.take i).flatMap (·.2)).length := ⟨_, rfl⟩
    rw [← hs] at hle ⊢
    by_cases hlt : i < m
    · have hii : (i : Int) < (m : Int) := by omega
      obtain ⟨p, hpi, hes, hPi⟩ := PART.out i hlt
      obtain ⟨x, c, hv⟩ := hes.len
      have hc := (cell_row ROW.out i).trans hPi
      rw [hv] at hc
      have hle2 := FLE.out (i + 1)
      have EQ : Hid ((((ps.take (i + 1)).flatMap (·.2)).length : Int) = (s : Int) + (p.2.length : Int)) := by show _ = _; rw [FLAT.out i p hpi, List.length_append, hs]; omega
      rw [FLAT.out i p hpi, List.length_append, ← hs] at hle2
      have hh : ¬ ((s : Int) + (p.2.length : Int) < 0) := by omega
      have hle3 : (s : Int) + (p.2.length : Int) ≤ 1000 := by omega
      generalize p.2.length = l at *
      clear hpi hes hPi hv hle hle2 hs
      go_wp2_with fail
      go_round
      case rel => exact ⟨i + 1, by omega, by go_num, by rw [EQ.out]⟩
      case measure => simp [intOf]; omega
    · have hge : ¬ (i : Int) < (m : Int) := by omega
      obtain rfl : i = m := by omega
      have HSS := Lib.hid hs
      clear hs
      go_wp2_with fail
      refine (GRW.out s hle).mono ?_
      rintro e w1 ⟨x, c, rfl, how, hb⟩
      have HOW := Lib.hid how
      have HB := Lib.hid hb
      clear how hb
      go_wp2_with fail
      go_loopw [6, 27] (fun v6 v27 wr => ∃ k : Nat, k ≤ i ∧ v27 = .int .i64 (k : Int) ∧ ∃ x c, v6 = .slice x ((ps.take k).flatMap (·.2)).length c ∧ wr.ownsRow w.heap.size 67 33 v6 ((ps.take k).flatMap (·.2)).length (((ps.take k).flatMap (·.2)).flatMap kid) ∧ Below w.heap.size w wr) (fun _ v27 _ => i - (intOf v27).toNat)
      case atStart => exact ⟨0, by omega, rfl, x, c, rfl, HOW.out, HB.out⟩
      case round =>
        obtain ⟨k, hk, rfl, x2, c2, rfl, how, hb⟩ := hrel
        have HO := Lib.hid how
        have HBW := Lib.hid hb
        clear how hb
        by_cases hlk : k < i
        · have hkk : (k : Int) < (i : Int) := by omega
          obtain ⟨p, hpk, hes, hPk⟩ := PART.out k hlk
          have hle2 := FLE.out (k + 1)
          have EQF := Lib.hid (FLAT.out k p hpk)
          rw [EQF.out, List.length_append] at hle2
          have hbl : g < w.heap.size := (Array.getElem?_eq_some_iff.1 ROW.out).1
          have hc := ((HBW.out.cell (p := ⟨g, k, none⟩) hbl).trans (cell_row ROW.out k)).trans hPk
          obtain ⟨i0, hi0, hz0, hz1, hz2⟩ := info_parts info67
          obtain ⟨v', w', hr, ho', hgr⟩ := appRows Try.underlying24 info67 (by kernel_rfl) (by decide) HO.out (hes.below HBW.out) (fun x _ => one_kid x) hle2 (by decide) HBW.out.size
          obtain ⟨x3, n3, c3, hv3, _, _⟩ := capOk_own ho'
          obtain rfl : n3 = ((ps.take k).flatMap (·.2)).length + p.2.length := by
            obtain ⟨_, ⟨e1, e2⟩ | ⟨_, _, _, e1, _⟩⟩ := ho'
            · rw [hv3] at e1; cases e1; omega
            · rw [hv3] at e1; cases e1; rfl
          have HR := Lib.hid hr
          have HO2 : Hid (w'.ownsRow w.heap.size 67 33 v' ((ps.take (k + 1)).flatMap (·.2)).length (((ps.take (k + 1)).flatMap (·.2)).flatMap kid)) := by
            rw [EQF.out, List.length_append]; exact ho'
          have HB2 : Hid (Below w.heap.size w w') := HBW.out.grown hgr HBW.out.size (fun b e => (HO.out.lt b e).1)
          have HV : Hid (v' = .slice x3 ((ps.take (k + 1)).flatMap (·.2)).length c3) := by show _ = _; rw [EQF.out, List.length_append]; exact hv3
          obtain ⟨x, c, hv⟩ := hes.len
          rw [hv] at hc HR
          generalize p.2.length = l at *
          generalize ((ps.take k).flatMap (·.2)).length = s2 at *
          clear hpk hes hPk hr ho' hgr hv3 hv hle2 hi0 hz0 hz1 hz2 EQF hbl HO
          go_wp2_with (at_builtin; refine wpList_appK 24 rfl _ _ rfl rfl rfl rfl HR.out ?_)
          go_roundw
          case rel => exact ⟨k + 1, by omega, by go_num, x3, c3, HV.out, HO2.out, HB2.out⟩
          case measure => simp [intOf]; omega
        · have hge2 : ¬ (k : Int) < (i : Int) := by omega
          obtain rfl : k = i := by omega
          have FIN : Hid (ES kid 33 wr (.slice x2 ((ps.take k).flatMap (·.2)).length c2) L ∧ capOk (.slice x2 ((ps.take k).flatMap (·.2)).length c2) ∧ fresh w.heap.size (.slice x2 ((ps.take k).flatMap (·.2)).length c2)) := by
            refine ⟨?_, capOk_own HO.out, fun b e => (HO.out.lt b e).1⟩
            have h1 := HO.out
            rw [ALL.out] at h1 ⊢
            have h2 := FLE.out k
            rw [ALL.out] at h2
            exact es_own h1 LEN.out rfl (by omega)
          clear HO
          generalize ((ps.take k).flatMap (·.2)).length = s2 at FIN ⊢
          go_wp2_with fail
          go_ret
          exact ⟨_, rfl, FIN.out.1, FIN.out.2.1, FIN.out.2.2, HBW.out⟩
end Go.Proofs.Ytnifaldgofmciaa
