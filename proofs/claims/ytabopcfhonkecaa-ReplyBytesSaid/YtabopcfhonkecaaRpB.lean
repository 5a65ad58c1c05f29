/-
  Contracts of slices.Grow of nil and of slices.Concat, of bytes. Condition: the slices read as bytes, no more than a hundred thousand of them.
-/
import Derived.Test.YtabopcfhonkecaaRpA
import Derived.Lib.AppendZerosOnto
namespace Go.Proofs.Ytabopcfhonkecaa
open Go.RowKit
theorem cell_row {w : World} {g : Nat} {cs : Array Value} {t : TypeId} {fr : Nat × Nat} (h : w.heap[g]? = some (.cells cs t fr)) (i : Nat) : w.cell? ⟨g, i, none⟩ = cs[i]? := by
  simp [World.cell?, h]
theorem add_plain (b o j : Nat) : (⟨b, o, none⟩ : Addr).add j = ⟨b, o + j, none⟩ := by unfold Addr.add; split <;> simp_all
theorem own_none {w : World} {base g cap : Nat} {cur : Array Value} (hb : base ≤ g) (hg : w.heap[g]? = some (.cells cur 5 (0, 0))) (hm : cap ≤ maxLen) (hs : cur.size = cap * 1) : Own w base (.slice (some ⟨g, 0, none⟩) 0 cap) [] :=
  ⟨fun _ h => by simp at h, by simp, .inr ⟨g, cap, cur, rfl, hb, hg, Nat.zero_le _, hm, hs, by simp⟩⟩
def GrowB (w : World) (e : Ending) (w' : World) : Prop := ∃ x c, e = .returned (.slice x 0 c) ∧ Own w' w.heap.size (.slice x 0 c) [] ∧ Below w.heap.size w w'
/-- The slices that are put one behind the other, and what they read as. -/
def PartsB (w : World) (ps : List (Value × List Int)) : Prop := ∀ p ∈ ps, Sees w p.1 p.2
theorem take_flat {α β : Type} (ps : List (β × List α)) (i : Nat) (p : β × List α) (h : ps[i]? = some p) : (ps.take (i + 1)).flatMap (·.2) = (ps.take i).flatMap (·.2) ++ p.2 := by
  rw [List.take_add_one, h, List.flatMap_append]
  simp
theorem take_flat_le {α β : Type} (ps : List (β × List α)) (i : Nat) : ((ps.take i).flatMap (·.2)).length ≤ (ps.flatMap (·.2)).length := by
  conv => rhs; rw [← List.take_append_drop i ps, List.flatMap_append, List.length_append]
  omega
set_option maxRecDepth 100000 in
set_option maxHeartbeats 4000000 in
theorem growB (n : Nat) (w : World) (hn : n ≤ 100000) : Calls Try.prog 32 #[.slice none 0 0, .int .i64 (n : Int)] w (GrowB w) := by
  obtain ⟨i, hi, hz0, hz1, hz2⟩ := info_parts info5
  have hni : (n : Int) ≤ 100000 := by omega
  have h0 : ¬ ((n : Int) < 0) := by omega
  by_cases hp : n = 0
  · subst hp
    go_enter Try.func32, Try.ntmps32
    go_wp2_with fail
    go_ret
    exact ⟨none, 0, rfl, own_nil w _, Below.refl _ _⟩
  · have hpos : (0 : Int) < (n : Int) := by omega
    have hr := Lib.run_append_grow_zeros w 23 3 23 5 i (.int .u8 0) .i64 .i64 Try.underlying23 (by kernel_rfl) hi hz0 none 0 0 [] (run_firstCells_none w.drew i.size 0 0 0) n (by omega) (by rw [hz1]; decide) (by omega) (by omega)
      (by rw [hz2]; omega) (growslice_fits (by omega) (by rw [hz2]; omega))
    rw [Nat.zero_add] at hr
    obtain ⟨G, hG⟩ : ∃ G, G = grownCap w n 0 5 := ⟨_, rfl⟩
    have hge := grownCap_ge w n 0 5
    have hle := grownCap_le_maxLen w n 0 5 (by unfold maxLen; omega)
    obtain ⟨C, hC⟩ : ∃ C : Array Value, C = (([] : List Value).toArray ++ Builtin.zeroCells (Value.cells (.int .u8 0)) n ++ Builtin.zeroCells (Value.cells (.int .u8 0)) (grownCap w n 0 5 - n)) := ⟨_, rfl⟩
    have hCs : C.size = G * 1 := by
      rw [hC, hG]
      simp only [Array.size_append, size_zeroCells, List.size_toArray, List.length_nil]
      rw [show (Value.cells (.int .u8 0)).size = 1 from rfl, Nat.zero_add, ← Nat.add_mul]
      congr 1
      omega
    rw [← hC, ← hG] at hr
    rw [← hG] at hge hle
    have hle2 : G ≤ 9223372036854775807 := by unfold maxLen at hle; omega
    obtain ⟨w1, hw1⟩ : ∃ w1, w1 = w.drew.alloc (.cells C 5) := ⟨_, rfl⟩
    have FIN : Hid (Own w1 w.heap.size (.slice (some ⟨w.heap.size, 0, none⟩) 0 G) [] ∧ Below w.heap.size w w1) := by
      refine ⟨own_none (Nat.le_refl _) (by rw [hw1]; exact heap_alloc_new w.drew _) hle hCs, ?_⟩
      rw [hw1]
      exact (Below.refl _ _).drew.alloc (by simp) _
    have HR : Hid ((Builtin.append_ #[23, 3] 23 #[.slice none 0 0, .int .i64 (n : Int)]).run Try.prog w = .ok (.slice (some ⟨w.heap.size, 0, none⟩) n G) w1) := by show _ = _; rw [hw1]; exact hr
    have hnG : n ≤ G := hge
    have HS : Hid ((Instr.slice 23 (.slice (some ⟨w.heap.size, 0, none⟩) n G) none (some (.int .i64 0)) none).run Try.prog w1 = .ok (.slice (some ⟨w.heap.size, 0, none⟩) 0 G) w1) := by
      show _ = _
      rw [run_slice_h w1 23 _ n G (by kernel_rfl) .i64 0 (by omega) (by omega), show (sizeOf (Try.prog.elem 23)).run Try.prog w1 = .ok 1 w1 by kernel_rfl]
      simp [Result.andThen, sliced, add_plain]
    have hs := HS.out
    clear hr hG hC hCs hge hle hle2 hw1 hnG hp HS

    go_enter Try.func32, Try.ntmps32
    go_wp2_with (at_builtin; refine Lib.wpList_append_run _ rfl _ _ _ _ rfl _ _ rfl rfl _ _ HR.out ?_)
    go_ret
    exact ⟨_, G, rfl, FIN.out.1, FIN.out.2⟩
set_option maxRecDepth 100000 in
set_option maxHeartbeats 8000000 in
theorem concB (ps : List (Value × List Int)) (P : Array Value) (g : Nat) (w : World) (hg : w.heap[g]? = some (.cells P 23 (0, 0))) (hP : P.toList = ps.map (·.1)) (hp : PartsB w ps) (hl : (ps.flatMap (·.2)).length ≤ 100000) (hm : ps.length ≤ 10) :
    Calls Try.prog 20 #[.slice (some ⟨g, 0, none⟩) ps.length ps.length] w (OwnP w (ps.flatMap (·.2))) := by
  obtain ⟨m, hmm⟩ : ∃ m, m = ps.length := ⟨_, rfl⟩
  have PART : Hid (∀ i, i < m → ∃ p : Value × List Int, ps[i]? = some p ∧ Sees w p.1 p.2 ∧ P[i]? = some p.1) := fun i hi => by
    refine ⟨ps[i]'(by omega), List.getElem?_eq_getElem (by omega), hp _ (List.getElem_mem _), ?_⟩
    have : P.toList[i]? = some (ps[i]'(by omega)).1 := by rw [hP, List.getElem?_map, List.getElem?_eq_getElem (by omega)]; rfl
    simpa using this
  have FLAT := Lib.hid (take_flat ps)
  have FLE := Lib.hid (fun i => Nat.le_trans (take_flat_le ps i) hl)
  have ALL : Hid ((ps.take m).flatMap (·.2) = ps.flatMap (·.2)) := by show _ = _; rw [hmm, List.take_length]
  have ROW := Lib.hid hg
  have GRW := Lib.hid (fun (n : Nat) (h : n ≤ 100000) => growB n w h)
  have hmi : (m : Int) ≤ 10 := by omega
  rw [← hmm] at hm ⊢
  generalize ps.flatMap (·.2) = L at *
  clear hg hP hp hl hmm
  go_enter Try.func20, Try.ntmps20
  go_wp2_with fail
  go_loop [3, 11] (fun v3 v11 => ∃ i : Nat, i ≤ m ∧ v11 = .int .i64 (i : Int) ∧ v3 = .int .i64 (((ps.take i).flatMap (·.2)).length : Int)) (fun _ v11 => m - (intOf v11).toNat)
  case atStart => exact ⟨0, by omega, rfl, rfl⟩
  case round =>
    obtain ⟨i, hi, rfl, rfl⟩ := hrel
    have hle := FLE.out i
    obtain ⟨s, hs⟩ : ∃ s, s = ((ps.take i).flatMap (·.2)).length := ⟨_, rfl⟩
    rw [← hs] at hle ⊢
    by_cases hlt : i < m
    · have hii : (i : Int) < (m : Int) := by omega
      obtain ⟨p, hpi, hes, hPi⟩ := PART.out i hlt
      obtain ⟨x, c, hv, _⟩ := hes.form
      have hc := (cell_row ROW.out i).trans hPi
      rw [hv] at hc
      have hle2 := FLE.out (i + 1)
      have EQ : Hid ((((ps.take (i + 1)).flatMap (·.2)).length : Int) = (s : Int) + (p.2.length : Int)) := by show _ = _; rw [FLAT.out i p hpi, List.length_append, hs]; omega
      rw [FLAT.out i p hpi, List.length_append, ← hs] at hle2
      have hh : ¬ ((s : Int) + (p.2.length : Int) < 0) := by omega
      have hle3 : (s : Int) + (p.2.length : Int) ≤ 100000 := by omega
      generalize p.2.length = l at *
      clear hpi hes hPi hv hle hle2 hs
      go_wp2_with fail
      go_round
      case rel => exact ⟨i + 1, by omega, by go_num, by rw [EQ.out]⟩
      case measure => simp [intOf]; omega
    · have hge : ¬ (i : Int) < (m : Int) := by omega
      obtain rfl : i = m := by omega
      have HSS := Lib.hid hs
      clear hs
      go_wp2_with fail
      refine (GRW.out s hle).mono ?_
      rintro e w1 ⟨x, c, rfl, how, hb⟩
      have HOW := Lib.hid how
      have HB := Lib.hid hb
      clear how hb
      go_wp2_with fail
      go_loopw [6, 27] (fun v6 v27 wr => ∃ k : Nat, k ≤ i ∧ v27 = .int .i64 (k : Int) ∧ ∃ x c, v6 = .slice x ((ps.take k).flatMap (·.2)).length c ∧ Own wr w.heap.size (.slice x ((ps.take k).flatMap (·.2)).length c) ((ps.take k).flatMap (·.2)) ∧ Below w.heap.size w wr) (fun _ v27 _ => i - (intOf v27).toNat)
      case atStart => exact ⟨0, by omega, rfl, x, c, rfl, HOW.out, HB.out⟩
      case round =>
        obtain ⟨k, hk, rfl, x2, c2, rfl, how, hb⟩ := hrel
        have HO := Lib.hid how
        have HBW := Lib.hid hb
        clear how hb
        by_cases hlk : k < i
        · have hkk : (k : Int) < (i : Int) := by omega
          obtain ⟨p, hpk, hes, hPk⟩ := PART.out k hlk
          have hle2 := FLE.out (k + 1)
          have EQF := Lib.hid (FLAT.out k p hpk)
          rw [EQF.out, List.length_append] at hle2
          have hbl : g < w.heap.size := (Array.getElem?_eq_some_iff.1 ROW.out).1
          have hc := ((HBW.out.cell (p := ⟨g, k, none⟩) hbl).trans (cell_row ROW.out k)).trans hPk
          obtain ⟨x3, c3, w', hr, ho', hgr, hb'⟩ := app HO.out (hes.below HBW.out) (by omega) HBW.out.size
          have HR := Lib.hid hr
          have HO2 : Hid (Own w' w.heap.size (.slice x3 ((ps.take (k + 1)).flatMap (·.2)).length c3) ((ps.take (k + 1)).flatMap (·.2))) := by
            rw [EQF.out, List.length_append]; exact ho'
          have HB2 : Hid (Below w.heap.size w w') := HBW.out.trans hb'
          have HV : Hid (Value.slice x3 (((ps.take k).flatMap (·.2)).length + p.2.length) c3 = .slice x3 ((ps.take (k + 1)).flatMap (·.2)).length c3) := by show _ = _; rw [EQF.out, List.length_append]
          obtain ⟨x, c, hv, _⟩ := hes.form
          rw [hv] at hc HR
          generalize p.2.length = l at *
          generalize ((ps.take k).flatMap (·.2)).length = s2 at *
          clear hpk hes hPk hr ho' hgr hb' hv hle2 EQF hbl HO
          go_wp2_with (at_builtin; refine wpList_app rfl _ _ rfl rfl rfl rfl HR.out ?_)
          go_roundw
          case rel => exact ⟨k + 1, by omega, by go_num, x3, c3, HV.out, HO2.out, HB2.out⟩
          case measure => simp [intOf]; omega
        · have hge2 : ¬ (k : Int) < (i : Int) := by omega
          obtain rfl : k = i := by omega
          have FIN : Hid (Own wr w.heap.size (.slice x2 L.length c2) L) := by
            have h1 := HO.out
            rw [ALL.out] at h1
            exact h1
          have EL := ALL.out
          rw [EL]
          clear HO EL
          go_wp2_with fail
          go_ret
          exact ⟨_, _, rfl, FIN.out, HBW.out⟩
end Go.Proofs.Ytabopcfhonkecaa
