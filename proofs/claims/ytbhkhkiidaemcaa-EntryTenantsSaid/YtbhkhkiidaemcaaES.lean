/-
  How volumes, blocks, roots, tenants and values come in. No condition.
-/
import Derived.Test.YtbhkhkiidaemcaaEQ
namespace Go.Proofs.Ytbhkhkiidaemcaa
open Go.ChangeShapes Go.WideShapes Go.ChangeAt Go.RowKit
theorem cells33 : Try.prog.cellsOf 33 = 32 := by kernel_rfl
theorem cells35 : Try.prog.cellsOf 35 = 33 := by kernel_rfl
theorem cells30 : Try.prog.cellsOf 30 = 2 := by kernel_rfl
theorem cells37 : Try.prog.cellsOf 37 = 34 := by kernel_rfl
theorem cells55 : Try.prog.cellsOf 55 = 34 := by kernel_rfl
theorem cells57 : Try.prog.cellsOf 57 = 35 := by kernel_rfl
theorem cells22 : Try.prog.cellsOf 22 = 1 := by kernel_rfl
theorem cells31 : Try.prog.cellsOf 31 = 1 := by kernel_rfl
theorem cells4 : Try.prog.cellsOf 4 = 1 := by kernel_rfl
theorem cells3 : Try.prog.cellsOf 3 = 1 := by kernel_rfl
theorem cells38 : Try.prog.cellsOf 38 = 44 := by kernel_rfl
theorem st30 : Try.prog.underlying 30 = some (.struct (Try.prog.fieldsOf 30)) := by kernel_rfl
theorem st35 : Try.prog.underlying 35 = some (.struct (Try.prog.fieldsOf 35)) := by kernel_rfl
theorem st37 : Try.prog.underlying 37 = some (.struct (Try.prog.fieldsOf 37)) := by kernel_rfl
theorem st55 : Try.prog.underlying 55 = some (.struct (Try.prog.fieldsOf 55)) := by kernel_rfl
theorem st57 : Try.prog.underlying 57 = some (.struct (Try.prog.fieldsOf 57)) := by kernel_rfl
theorem fo30 : (Try.prog.fieldsOf 30).toList.map (fun f => (decide (f.name ≠ "_"), f.type, f.offset)) = [(true, 22, 0), (true, 3, 1)] := by kernel_rfl
theorem fo35 : (Try.prog.fieldsOf 35).toList.map (fun f => (decide (f.name ≠ "_"), f.type, f.offset)) = [(true, 31, 0), (true, 33, 1)] := by kernel_rfl
theorem fo37 : (Try.prog.fieldsOf 37).toList.map (fun f => (decide (f.name ≠ "_"), f.type, f.offset)) = [(true, 35, 0), (true, 22, 33)] := by kernel_rfl
theorem fo55 : (Try.prog.fieldsOf 55).toList.map (fun f => (decide (f.name ≠ "_"), f.type, f.offset)) = [(true, 4, 0), (true, 35, 1)] := by kernel_rfl
theorem fo57 : (Try.prog.fieldsOf 57).toList.map (fun f => (decide (f.name ≠ "_"), f.type, f.offset)) = [(true, 33, 0), (true, 3, 32), (true, 3, 33), (true, 3, 34)] := by kernel_rfl
set_option maxRecDepth 100000 in
theorem open_val {H : Type} {enc : TypeId × Value → H} {w : World} {r : Reach} {b0 base : Nat} {v : Value} {d : DataW H} {ps : List MemPlace}
    (hval : Value.okWide Try.prog w r b0 38 v) (hd : DataW.Trod enc Try.prog w base (fun _ => true) true 38 v d ps) : ∃ l : List Int, Byt l ∧ l.length = 44 ∧ v = .agg (bcells l) := by
  unfold Value.okWide at hval
  simp only [show Try.prog.underlying 38 = some (.array 44 5) from by kernel_rfl] at hval
  obtain ⟨cs, rfl, hsz, _⟩ := hval
  obtain ⟨fuel, hf⟩ := hd
  obtain ⟨ys, h1, h2, h3⟩ := trod_bytes (t := 38) (by kernel_rfl) cells38 hf
  refine ⟨ys, h1, h2, ?_⟩
  congr 1
  apply Array.ext'
  rw [bcells_toList, ← h3]
  rfl
set_option maxRecDepth 100000 in
theorem open_vol {H : Type} {enc : TypeId × Value → H} {w : World} {r : Reach} {b0 base : Nat} {v : Value} {d : DataW H} {ps : List MemPlace}
    (hval : Value.okWide Try.prog w r b0 30 v) (hd : DataW.Trod enc Try.prog w base (fun _ => true) true 30 v d ps) : ∃ n b : Int, (0 ≤ n ∧ n ≤ 18446744073709551615) ∧ v = .agg (vcells n b) := by
  obtain ⟨cs, rfl, hsz⟩ := okWide_struct st30 hval
  rw [cells30] at hsz
  obtain ⟨fuel, hf⟩ := hd
  have hf' : DataW.trod enc Try.prog w base (fun _ => true) true fuel 30 cs.toList = some (d, ps) := hf
  obtain ⟨m0, y0, h0⟩ := trod_field st30 hf' fo30 0 true 22 0 rfl
  obtain ⟨m1, y1, h1⟩ := trod_field st30 hf' fo30 1 true 3 1 rfl
  rw [cells22] at h0
  rw [cells3] at h1
  obtain ⟨a, ha, _, wa⟩ := DataW.trod_int (k := .u64) (by kernel_rfl) h0
  obtain ⟨b, hb, _⟩ := DataW.trod_int (k := .i64) (by kernel_rfl) h1
  refine ⟨a, b, bounds_u64 wa, ?_⟩
  congr 1
  apply Array.ext'
  show cs.toList = [Value.int .u64 a, .int .i64 b]
  have hcl : cs.toList.length = 2 := by simpa using hsz
  generalize cs.toList = L at *
  rw [List.drop_zero] at ha
  have e1 := take_split L 1
  have e2 := take_split (L.drop 1) 1
  rw [List.drop_drop] at e2
  rw [ha] at e1
  rw [hb] at e2
  have e5 : L.drop (1 + 1) = [] := List.drop_eq_nil_of_le (by rw [hcl]; omega)
  rw [e5] at e2
  rw [e1, e2]
  rfl
set_option maxRecDepth 100000 in
theorem open_blk {H : Type} {enc : TypeId × Value → H} {w : World} {r : Reach} {b0 base : Nat} {v : Value} {d : DataW H} {ps : List MemPlace}
    (hval : Value.okWide Try.prog w r b0 37 v) (hd : DataW.Trod enc Try.prog w base (fun _ => true) true 37 v d ps) : ∃ (s : Int) (z : List Int) (t : Int), (0 ≤ s ∧ s ≤ 4294967295) ∧ Byt z ∧ z.length = 32 ∧ (0 ≤ t ∧ t ≤ 18446744073709551615) ∧ v = .agg (kcells s z t) := by
  obtain ⟨cs, rfl, hsz⟩ := okWide_struct st37 hval
  rw [cells37] at hsz
  obtain ⟨fuel, hf⟩ := hd
  have hf' : DataW.trod enc Try.prog w base (fun _ => true) true fuel 37 cs.toList = some (d, ps) := hf
  obtain ⟨m0, y0, h0⟩ := trod_field st37 hf' fo37 0 true 35 0 rfl
  obtain ⟨m1, y1, h1⟩ := trod_field st37 hf' fo37 1 true 22 33 rfl
  obtain ⟨m4, y4, h4⟩ := trod_field st35 h0 fo35 0 true 31 0 rfl
  obtain ⟨m5, y5, h5⟩ := trod_field st35 h0 fo35 1 true 33 1 rfl
  rw [cells35] at h4 h5
  rw [cells31] at h4
  rw [cells33] at h5
  obtain ⟨s, hs, _, ws⟩ := DataW.trod_int (k := .u32) (by kernel_rfl) h4
  obtain ⟨z, bz, lz, hz⟩ := trod_bytes (by kernel_rfl) cells33 h5
  rw [cells22] at h1
  obtain ⟨a, ha, _, wa⟩ := DataW.trod_int (k := .u64) (by kernel_rfl) h1
  refine ⟨s, z, a, bounds_u32 ws, bz, lz, bounds_u64 wa, ?_⟩
  congr 1
  apply Array.ext'
  show cs.toList = (Value.int .u32 s :: z.map (Value.int .u8)) ++ [Value.int .u64 a]
  have hcl : cs.toList.length = 34 := by simpa using hsz
  generalize cs.toList = L at *
  rw [List.drop_zero] at hs hz
  have e1 := take_split L 33
  have e2 := take_split (L.take 33) 1
  have e3 := take_split (L.drop 33) 1
  rw [List.drop_drop] at e3
  rw [List.drop_zero, List.take_take] at hs
  rw [List.take_take] at e2
  rw [hs] at e2
  rw [List.take_of_length_le (by rw [List.length_drop, List.length_take, hcl]; omega)] at hz
  rw [hz] at e2
  rw [ha] at e3
  have e5 : L.drop (33 + 1) = [] := List.drop_eq_nil_of_le (by rw [hcl]; omega)
  rw [e5] at e3
  rw [e1, e2, e3]
  rfl
set_option maxRecDepth 100000 in
theorem open_root {H : Type} {enc : TypeId × Value → H} {w : World} {r : Reach} {b0 base : Nat} {v : Value} {d : DataW H} {ps : List MemPlace}
    (hval : Value.okWide Try.prog w r b0 55 v) (hd : DataW.Trod enc Try.prog w base (fun _ => true) true 55 v d ps) : ∃ (h : Bool) (s : Int) (z : List Int), (0 ≤ s ∧ s ≤ 4294967295) ∧ Byt z ∧ z.length = 32 ∧ v = .agg (ocells h s z) := by
  obtain ⟨cs, rfl, hsz⟩ := okWide_struct st55 hval
  rw [cells55] at hsz
  obtain ⟨fuel, hf⟩ := hd
  have hf' : DataW.trod enc Try.prog w base (fun _ => true) true fuel 55 cs.toList = some (d, ps) := hf
  obtain ⟨m0, y0, h0⟩ := trod_field st55 hf' fo55 0 true 4 0 rfl
  obtain ⟨m1, y1, h1⟩ := trod_field st55 hf' fo55 1 true 35 1 rfl
  obtain ⟨m4, y4, h4⟩ := trod_field st35 h1 fo35 0 true 31 0 rfl
  obtain ⟨m5, y5, h5⟩ := trod_field st35 h1 fo35 1 true 33 1 rfl
  rw [cells35] at h4 h5
  rw [cells31] at h4
  rw [cells33] at h5
  obtain ⟨s, hs, _, ws⟩ := DataW.trod_int (k := .u32) (by kernel_rfl) h4
  obtain ⟨z, bz, lz, hz⟩ := trod_bytes (by kernel_rfl) cells33 h5
  rw [cells4] at h0
  obtain ⟨c, hc, _⟩ := DataW.trod_bool Try.underlying4 h0
  refine ⟨c, s, z, bounds_u32 ws, bz, lz, ?_⟩
  congr 1
  apply Array.ext'
  show cs.toList = Value.bool c :: (Value.int .u32 s :: z.map (Value.int .u8))
  have hcl : cs.toList.length = 34 := by simpa using hsz
  generalize cs.toList = L at *
  rw [List.drop_zero] at hc
  have e0 : (L.drop 1).take 33 = L.drop 1 := List.take_of_length_le (by rw [List.length_drop, hcl]; omega)
  rw [e0, List.drop_zero] at hs
  rw [e0, List.drop_drop, List.take_of_length_le (by rw [List.length_drop, hcl]; omega)] at hz
  have e1 := take_split L 1
  have e2 := take_split (L.drop 1) 1
  rw [List.drop_drop] at e2
  rw [hc] at e1
  rw [hs, hz] at e2
  rw [e1, e2]
  rfl
set_option maxRecDepth 100000 in
theorem open_ten {H : Type} {enc : TypeId × Value → H} {w : World} {r : Reach} {b0 base : Nat} {v : Value} {d : DataW H} {ps : List MemPlace}
    (hval : Value.okWide Try.prog w r b0 57 v) (hd : DataW.Trod enc Try.prog w base (fun _ => true) true 57 v d ps) : ∃ (z : List Int) (r q c : Int), Byt z ∧ z.length = 32 ∧ v = .agg (ncells z r q c) := by
  obtain ⟨cs, rfl, hsz⟩ := okWide_struct st57 hval
  rw [cells57] at hsz
  obtain ⟨fuel, hf⟩ := hd
  have hf' : DataW.trod enc Try.prog w base (fun _ => true) true fuel 57 cs.toList = some (d, ps) := hf
  obtain ⟨m0, y0, h0⟩ := trod_field st57 hf' fo57 0 true 33 0 rfl
  obtain ⟨m1, y1, h1⟩ := trod_field st57 hf' fo57 1 true 3 32 rfl
  obtain ⟨m2, y2, h2⟩ := trod_field st57 hf' fo57 2 true 3 33 rfl
  obtain ⟨m3, y3, h3⟩ := trod_field st57 hf' fo57 3 true 3 34 rfl
  rw [cells33] at h0
  rw [cells3] at h1 h2 h3
  obtain ⟨z, bz, lz, hz⟩ := trod_bytes (by kernel_rfl) cells33 h0
  obtain ⟨a, ha, _⟩ := DataW.trod_int (k := .i64) (by kernel_rfl) h1
  obtain ⟨b, hb, _⟩ := DataW.trod_int (k := .i64) (by kernel_rfl) h2
  obtain ⟨c, hc, _⟩ := DataW.trod_int (k := .i64) (by kernel_rfl) h3
  refine ⟨z, a, b, c, bz, lz, ?_⟩
  congr 1
  apply Array.ext'
  show cs.toList = z.map (Value.int .u8) ++ [Value.int .i64 a, .int .i64 b, .int .i64 c]
  have hcl : cs.toList.length = 35 := by simpa using hsz
  generalize cs.toList = L at *
  rw [List.drop_zero] at hz
  have e1 := take_split L 32
  have e2 := take_split (L.drop 32) 1
  have e3 := take_split (L.drop 33) 1
  have e4 := take_split (L.drop 34) 1
  rw [List.drop_drop] at e2 e3 e4
  rw [hz] at e1
  rw [ha] at e2
  rw [hb] at e3
  rw [hc] at e4
  have e5 : L.drop (34 + 1) = [] := List.drop_eq_nil_of_le (by rw [hcl]; omega)
  rw [e5] at e4
  rw [e1, e2, e3, e4]
  rfl
end Go.Proofs.Ytbhkhkiidaemcaa
