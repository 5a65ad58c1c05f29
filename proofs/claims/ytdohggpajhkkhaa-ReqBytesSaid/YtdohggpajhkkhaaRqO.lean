/-
  From a law's inputs to a request as data. Condition: the argument's type can be read.
-/
import Derived.Test.YtdohggpajhkkhaaRows
import Derived.Test.YtdohggpajhkkhaaRqM
import Derived.ProofKit
import Derived.OpenShut
import Derived.Below
import Derived.Deep.Slices
namespace Go.Proofs.Ytdohggpajhkkhaa
open Go.ChangeShapes Go.WideShapes Go.ChangeAt Go.RowKit
theorem st26 : Try.prog.underlying 26 = some (.struct (Try.prog.fieldsOf 26)) := by kernel_rfl
theorem fo26 : (Try.prog.fieldsOf 26).toList.map (fun f => (decide (f.name ≠ "_"), f.type, f.offset)) = [(true, 3, 0), (true, 3, 1), (true, 3, 2), (true, 3, 3), (true, 3, 4), (true, 3, 5), (true, 3, 6), (true, 3, 7), (true, 3, 8), (true, 23, 9), (true, 23, 41), (true, 23, 73), (true, 22, 105), (true, 24, 137)] := by kernel_rfl
theorem cells3 : Try.prog.cellsOf 3 = 1 := by kernel_rfl
theorem cells22 : Try.prog.cellsOf 22 = 32 := by kernel_rfl
theorem cells23 : Try.prog.cellsOf 23 = 32 := by kernel_rfl
theorem cells24 : Try.prog.cellsOf 24 = 1 := by kernel_rfl
theorem cells26 : Try.prog.cellsOf 26 = 138 := by kernel_rfl
theorem open_bytes {H : Type} {enc : TypeId × Value → H} {w : World} {base fuel : Nat} {cs : List Value} {x : DataW H × List MemPlace} (hf : DataW.trod enc Try.prog w base (fun _ => true) true fuel 24 cs = some x) : ∃ v xs, cs = [v] ∧ Sees w v xs := by
  rcases open_ints Try.underlying24 Try.underlying5 cells5 hf with ⟨hc, _⟩ | ⟨a, len, cap, zs, hc, _, hl, hm, hlen, _, hcell, hwf⟩
  · exact ⟨_, [], hc, ⟨fun _ h => by simp at h, .inl ⟨rfl, rfl⟩⟩⟩
  · rw [if_pos rfl] at hlen
    have hb : Byt (zs.take len) := fun x hx => bounds_u8 (hwf x (List.mem_of_mem_take hx))
    refine ⟨_, zs.take len, hc, hb, ?_⟩
    by_cases h0 : len = 0
    · subst h0
      exact .inr (.inl ⟨a, cap, rfl, by simp, hm⟩)
    · obtain ⟨b, o, rfl, h2⟩ := ints_at hcell (by omega)
      have hlz : (zs.take len).length = len := by rw [List.length_take]; omega
      refine .inr (.inr ⟨b, o, cap, by rw [hlz], fun e => h0 (by rw [← hlz, e]; rfl), by omega, hm, fun i hi => ?_⟩)
      rw [hlz] at hi
      rw [h2 i (by omega)]
      simp [nth, List.getD, List.getElem?_take_of_lt hi]
/-- The request without its data. -/
def bare (p : Rq) : Rq := { p with d := [] }
theorem bare_rq {p : Rq} (h : RQ (bare p)) (hl : p.d.length ≤ 10000) : RQ p := ⟨h.k, h.s, h.t, h.v, h.b, h.c, h.n, h.r, h.q, h.o, h.f, h.m, h.x, hl⟩
set_option maxRecDepth 100000 in
set_option maxHeartbeats 1000000 in
theorem open_req {H : Type} {enc : TypeId × Value → H} {w : World} {r : Reach} {b0 base : Nat} {v : Value} {d : DataW H} {ps : List MemPlace}
    (hval : Value.okWide Try.prog w r b0 26 v) (hd : DataW.Trod enc Try.prog w base (fun _ => true) true 26 v d ps) : ∃ (p : Rq) (dv : Value), v = .agg (rc p dv).toArray ∧ Sees w dv p.d ∧ RQ (bare p) := by
  obtain ⟨cs, rfl, hsz⟩ := okWide_struct st26 hval
  rw [cells26] at hsz
  obtain ⟨fuel, hf⟩ := hd
  have hf' : DataW.trod enc Try.prog w base (fun _ => true) true fuel 26 cs.toList = some (d, ps) := hf
  obtain ⟨m0, y0, h0⟩ := trod_field st26 hf' fo26 0 true 3 0 rfl
  obtain ⟨m1, y1, h1⟩ := trod_field st26 hf' fo26 1 true 3 1 rfl
  obtain ⟨m2, y2, h2⟩ := trod_field st26 hf' fo26 2 true 3 2 rfl
  obtain ⟨m3, y3, h3⟩ := trod_field st26 hf' fo26 3 true 3 3 rfl
  obtain ⟨m4, y4, h4⟩ := trod_field st26 hf' fo26 4 true 3 4 rfl
  obtain ⟨m5, y5, h5⟩ := trod_field st26 hf' fo26 5 true 3 5 rfl
  obtain ⟨m6, y6, h6⟩ := trod_field st26 hf' fo26 6 true 3 6 rfl
  obtain ⟨m7, y7, h7⟩ := trod_field st26 hf' fo26 7 true 3 7 rfl
  obtain ⟨m8, y8, h8⟩ := trod_field st26 hf' fo26 8 true 3 8 rfl
  obtain ⟨m9, y9, h9⟩ := trod_field st26 hf' fo26 9 true 23 9 rfl
  obtain ⟨m10, y10, h10⟩ := trod_field st26 hf' fo26 10 true 23 41 rfl
  obtain ⟨m11, y11, h11⟩ := trod_field st26 hf' fo26 11 true 23 73 rfl
  obtain ⟨m12, y12, h12⟩ := trod_field st26 hf' fo26 12 true 22 105 rfl
  obtain ⟨m13, y13, h13⟩ := trod_field st26 hf' fo26 13 true 24 137 rfl
  rw [cells3] at h0 h1 h2 h3 h4 h5 h6 h7 h8
  rw [cells23] at h9 h10 h11
  rw [cells22] at h12
  rw [cells24] at h13
  obtain ⟨a0, e0, q0⟩ := DataW.trod_int (k := .i64) Try.underlying3 h0
  obtain ⟨a1, e1, q1⟩ := DataW.trod_int (k := .i64) Try.underlying3 h1
  obtain ⟨a2, e2, q2⟩ := DataW.trod_int (k := .i64) Try.underlying3 h2
  obtain ⟨a3, e3, q3⟩ := DataW.trod_int (k := .i64) Try.underlying3 h3
  obtain ⟨a4, e4, q4⟩ := DataW.trod_int (k := .i64) Try.underlying3 h4
  obtain ⟨a5, e5, q5⟩ := DataW.trod_int (k := .i64) Try.underlying3 h5
  obtain ⟨a6, e6, q6⟩ := DataW.trod_int (k := .i64) Try.underlying3 h6
  obtain ⟨a7, e7, q7⟩ := DataW.trod_int (k := .i64) Try.underlying3 h7
  obtain ⟨a8, e8, q8⟩ := DataW.trod_int (k := .i64) Try.underlying3 h8
  obtain ⟨z9, b9, l9, e9⟩ := trod_bytes (t := 23) (n := 32) (by kernel_rfl) cells23 h9
  obtain ⟨z10, b10, l10, e10⟩ := trod_bytes (t := 23) (n := 32) (by kernel_rfl) cells23 h10
  obtain ⟨z11, b11, l11, e11⟩ := trod_bytes (t := 23) (n := 32) (by kernel_rfl) cells23 h11
  obtain ⟨z12, b12, l12, e12⟩ := trod_bytes (t := 22) (n := 32) (by kernel_rfl) cells22 h12
  obtain ⟨dv, xs, e13, hs⟩ := open_bytes h13
  refine ⟨⟨a0, a1, a2, a3, a4, a5, a6, a7, a8, z9, z10, z11, z12, xs⟩, dv, ?_, hs, ?_⟩
  · congr 1
    apply Array.ext'
    have hcl : cs.toList.length = 138 := by simpa using hsz
    clear hf' hf hsz h0 h1 h2 h3 h4 h5 h6 h7 h8 h9 h10 h11 h12 h13
    generalize cs.toList = L at *
    rw [List.drop_zero] at e0
    have s0 := take_split L 1
    have s1 := take_split (L.drop 1) 1
    have s2 := take_split (L.drop 2) 1
    have s3 := take_split (L.drop 3) 1
    have s4 := take_split (L.drop 4) 1
    have s5 := take_split (L.drop 5) 1
    have s6 := take_split (L.drop 6) 1
    have s7 := take_split (L.drop 7) 1
    have s8 := take_split (L.drop 8) 1
    have s9 := take_split (L.drop 9) 32
    have s10 := take_split (L.drop 41) 32
    have s11 := take_split (L.drop 73) 32
    have s12 := take_split (L.drop 105) 32
    have s13 := take_split (L.drop 137) 1
    rw [List.drop_drop] at s1 s2 s3 s4 s5 s6 s7 s8 s9 s10 s11 s12 s13
    rw [e0] at s0
    rw [e1] at s1
    rw [e2] at s2
    rw [e3] at s3
    rw [e4] at s4
    rw [e5] at s5
    rw [e6] at s6
    rw [e7] at s7
    rw [e8] at s8
    rw [e9] at s9
    rw [e10] at s10
    rw [e11] at s11
    rw [e12] at s12
    rw [e13] at s13
    have sx : L.drop (137 + 1) = [] := List.drop_eq_nil_of_le (by rw [hcl]; omega)
    rw [sx] at s13
    rw [s0, s1, s2, s3, s4, s5, s6, s7, s8, s9, s10, s11, s12, s13]
    rfl
  · exact ⟨bounds_i64 q0.2, bounds_i64 q1.2, bounds_i64 q2.2, bounds_i64 q3.2, bounds_i64 q4.2, bounds_i64 q5.2, bounds_i64 q6.2, bounds_i64 q7.2, bounds_i64 q8.2, ⟨l9, b9⟩, ⟨l10, b10⟩, ⟨l11, b11⟩, ⟨l12, b12⟩, Nat.zero_le _⟩
end Go.Proofs.Ytdohggpajhkkhaa
