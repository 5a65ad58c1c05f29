/-
  From a law's inputs to a reply and to a status as data. Condition: the argument's type can be read.
-/
import Derived.Test.YtabopcfhonkecaaRows
import Derived.Test.YtabopcfhonkecaaRpM
import Derived.Test.YtabopcfhonkecaaL
import Derived.ProofKit
import Derived.OpenShut
import Derived.Below
import Derived.Deep.Slices
namespace Go.Proofs.Ytabopcfhonkecaa
open Go.ChangeShapes Go.WideShapes Go.ChangeAt Go.RowKit
theorem st25 : Try.prog.underlying 25 = some (.struct (Try.prog.fieldsOf 25)) := by kernel_rfl
theorem fo25 : (Try.prog.fieldsOf 25).toList.map (fun f => (decide (f.name ≠ "_"), f.type, f.offset)) = [(true, 22, 0), (true, 3, 1), (true, 23, 2)] := by kernel_rfl
theorem st41 : Try.prog.underlying 41 = some (.struct (Try.prog.fieldsOf 41)) := by kernel_rfl
theorem fo41 : (Try.prog.fieldsOf 41).toList.map (fun f => (decide (f.name ≠ "_"), f.type, f.offset)) = [(true, 3, 0), (true, 3, 1), (true, 3, 2), (true, 39, 3), (true, 39, 11)] := by kernel_rfl
theorem cells3 : Try.prog.cellsOf 3 = 1 := by kernel_rfl
theorem cells22 : Try.prog.cellsOf 22 = 1 := by kernel_rfl
theorem cells23 : Try.prog.cellsOf 23 = 1 := by kernel_rfl
theorem cells25 : Try.prog.cellsOf 25 = 3 := by kernel_rfl
theorem cells39 : Try.prog.cellsOf 39 = 8 := by kernel_rfl
theorem cells41 : Try.prog.cellsOf 41 = 19 := by kernel_rfl
theorem open_bytes {H : Type} {enc : TypeId × Value → H} {w : World} {base fuel : Nat} {cs : List Value} {x : DataW H × List MemPlace} (hf : DataW.trod enc Try.prog w base (fun _ => true) true fuel 23 cs = some x) : ∃ v xs, cs = [v] ∧ Sees w v xs := by
  rcases open_ints Try.underlying23 Try.underlying5 cells5 hf with ⟨hc, _⟩ | ⟨a, len, cap, zs, hc, _, hl, hm, hlen, _, hcell, hwf⟩
  · exact ⟨_, [], hc, ⟨fun _ h => by simp at h, .inl ⟨rfl, rfl⟩⟩⟩
  · rw [if_pos rfl] at hlen
    have hb : Byt (zs.take len) := fun x hx => bounds_u8 (hwf x (List.mem_of_mem_take hx))
    refine ⟨_, zs.take len, hc, hb, ?_⟩
    by_cases h0 : len = 0
    · subst h0
      exact .inr (.inl ⟨a, cap, rfl, by simp, hm⟩)
    · obtain ⟨b, o, rfl, h2⟩ := ints_at hcell (by omega)
      have hlz : (zs.take len).length = len := by rw [List.length_take]; omega
      refine .inr (.inr ⟨b, o, cap, by rw [hlz], fun e => h0 (by rw [← hlz, e]; rfl), by omega, hm, fun i hi => ?_⟩)
      rw [hlz] at hi
      rw [h2 i (by omega)]
      simp [nth, List.getD, List.getElem?_take_of_lt hi]
theorem trod_ints {H : Type} {enc : TypeId × Value → H} {w : World} {base : Nat} {t : TypeId} {n fuel : Nat} {cs : List Value} {x : DataW H × List MemPlace} (ht : Try.prog.underlying t = some (.array n 3)) (hn : Try.prog.cellsOf t = n)
    (h : DataW.trod enc Try.prog w base (fun _ => true) true fuel t cs = some x) : ∃ ys : List Int, (∀ y ∈ ys, i64 y) ∧ ys.length = n ∧ cs = ys.map (Value.int .i64) := by
  obtain ⟨xs, m, _, _, hl, hxl, hel⟩ := DataW.trod_array ht h
  rw [cells3] at hel
  rw [hn] at hl
  have hc : ∀ i (hi : i < cs.length), ∃ z : Int, (i64 z) ∧ cs[i] = .int .i64 z := fun i hi => by
    have h := hel i (by omega)
    have hx : xs[i]? = some xs[i] := List.getElem?_eq_getElem (by omega)
    rw [hx] at h
    obtain ⟨z, hz, _, hw⟩ := DataW.trod_int Try.underlying3 h
    refine ⟨z, bounds_i64 hw, ?_⟩
    rw [Nat.mul_one, List.drop_eq_getElem_cons hi, List.take_succ_cons, List.take_zero] at hz
    exact (List.cons.inj hz).1
  refine ⟨cs.map numOf, fun y hy => ?_, by simp [hl], ?_⟩
  · obtain ⟨v, hv, rfl⟩ := List.mem_map.1 hy
    obtain ⟨i, hi, rfl⟩ := List.getElem_of_mem hv
    obtain ⟨z, hz, e⟩ := hc i hi
    rw [e]; exact hz
  · apply List.ext_getElem
    · simp
    · intro i h1 h2
      obtain ⟨z, hz, e⟩ := hc i h1
      simp [e, numOf]
set_option maxRecDepth 100000 in
set_option maxHeartbeats 1000000 in
theorem open_rep {H : Type} {enc : TypeId × Value → H} {w : World} {r : Reach} {b0 base : Nat} {v : Value} {d : DataW H} {ps : List MemPlace}
    (hval : Value.okWide Try.prog w r b0 25 v) (hd : DataW.Trod enc Try.prog w base (fun _ => true) true 25 v d ps) : ∃ (p : Ry) (dv : Value), v = .agg (rc p dv).toArray ∧ Sees w dv p.d ∧ RY p := by
  obtain ⟨cs, rfl, hsz⟩ := okWide_struct st25 hval
  rw [cells25] at hsz
  obtain ⟨fuel, hf⟩ := hd
  have hf' : DataW.trod enc Try.prog w base (fun _ => true) true fuel 25 cs.toList = some (d, ps) := hf
  obtain ⟨m0, y0, h0⟩ := trod_field st25 hf' fo25 0 true 22 0 rfl
  obtain ⟨m1, y1, h1⟩ := trod_field st25 hf' fo25 1 true 3 1 rfl
  obtain ⟨m2, y2, h2⟩ := trod_field st25 hf' fo25 2 true 23 2 rfl
  rw [cells22] at h0
  rw [cells3] at h1
  rw [cells23] at h2
  obtain ⟨a0, e0, q0⟩ := DataW.trod_int (k := .i64) Try.underlying22 h0
  obtain ⟨a1, e1, q1⟩ := DataW.trod_int (k := .i64) Try.underlying3 h1
  obtain ⟨dv, xs, e2, hs⟩ := open_bytes h2
  refine ⟨⟨a0, a1, xs⟩, dv, ?_, hs, ⟨bounds_i64 q0.2, bounds_i64 q1.2⟩⟩
  congr 1
  apply Array.ext'
  have hcl : cs.toList.length = 3 := by simpa using hsz
  clear hf' hf hsz h0 h1 h2
  generalize cs.toList = L at *
  rw [List.drop_zero] at e0
  have s0 := take_split L 1
  have s1 := take_split (L.drop 1) 1
  have s2 := take_split (L.drop 2) 1
  rw [List.drop_drop] at s1 s2
  rw [e0] at s0
  rw [e1] at s1
  rw [e2] at s2
  have sx : L.drop (2 + 1) = [] := List.drop_eq_nil_of_le (by rw [hcl]; omega)
  rw [sx] at s2
  rw [s0, s1, s2]
  rfl
theorem sc_app (a b : List Int) : sc (a ++ b) = sc a ++ sc b := by simp [sc]
set_option maxRecDepth 100000 in
set_option maxHeartbeats 1000000 in
theorem open_st {H : Type} {enc : TypeId × Value → H} {w : World} {r : Reach} {b0 base : Nat} {v : Value} {d : DataW H} {ps : List MemPlace}
    (hval : Value.okWide Try.prog w r b0 41 v) (hd : DataW.Trod enc Try.prog w base (fun _ => true) true 41 v d ps) : ∃ L : List Int, L.length = 19 ∧ v = .agg (sc L).toArray := by
  obtain ⟨cs, rfl, hsz⟩ := okWide_struct st41 hval
  rw [cells41] at hsz
  obtain ⟨fuel, hf⟩ := hd
  have hf' : DataW.trod enc Try.prog w base (fun _ => true) true fuel 41 cs.toList = some (d, ps) := hf
  obtain ⟨m0, y0, h0⟩ := trod_field st41 hf' fo41 0 true 3 0 rfl
  obtain ⟨m1, y1, h1⟩ := trod_field st41 hf' fo41 1 true 3 1 rfl
  obtain ⟨m2, y2, h2⟩ := trod_field st41 hf' fo41 2 true 3 2 rfl
  obtain ⟨m3, y3, h3⟩ := trod_field st41 hf' fo41 3 true 39 3 rfl
  obtain ⟨m4, y4, h4⟩ := trod_field st41 hf' fo41 4 true 39 11 rfl
  rw [cells3] at h0 h1 h2
  rw [cells39] at h3 h4
  obtain ⟨a0, e0, q0⟩ := DataW.trod_int (k := .i64) Try.underlying3 h0
  obtain ⟨a1, e1, q1⟩ := DataW.trod_int (k := .i64) Try.underlying3 h1
  obtain ⟨a2, e2, q2⟩ := DataW.trod_int (k := .i64) Try.underlying3 h2
  obtain ⟨z3, _, l3, e3⟩ := trod_ints (t := 39) (n := 8) (by kernel_rfl) cells39 h3
  obtain ⟨z4, _, l4, e4⟩ := trod_ints (t := 39) (n := 8) (by kernel_rfl) cells39 h4
  refine ⟨[a0, a1, a2] ++ (z3 ++ z4), by simp [l3, l4], ?_⟩
  congr 1
  apply Array.ext'
  have hcl : cs.toList.length = 19 := by simpa using hsz
  clear hf' hf hsz h0 h1 h2 h3 h4
  generalize cs.toList = L at *
  rw [List.drop_zero] at e0
  have s0 := take_split L 1
  have s1 := take_split (L.drop 1) 1
  have s2 := take_split (L.drop 2) 1
  have s3 := take_split (L.drop 3) 8
  have s4 := take_split (L.drop 11) 8
  rw [List.drop_drop] at s1 s2 s3 s4
  rw [e0] at s0
  rw [e1] at s1
  rw [e2] at s2
  rw [e3] at s3
  rw [e4] at s4
  have sx : L.drop (11 + 8) = [] := List.drop_eq_nil_of_le (by rw [hcl]; omega)
  rw [sx, List.append_nil] at s4
  rw [s0, s1, s2, s3, s4, sc_app, sc_app]
  rfl
end Go.Proofs.Ytabopcfhonkecaa
