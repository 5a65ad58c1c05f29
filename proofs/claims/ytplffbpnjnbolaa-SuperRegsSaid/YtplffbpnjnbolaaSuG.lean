/-
  How heads, registers and rows of 64 bytes come in. No condition.
-/
import Derived.Test.YtplffbpnjnbolaaSuF
namespace Go.Proofs.Ytplffbpnjnbolaa
open Go.ChangeShapes Go.WideShapes Go.ChangeAt Go.RowKit
theorem cells25 : Try.prog.cellsOf 25 = 32 := by kernel_rfl
theorem cells27 : Try.prog.cellsOf 27 = 33 := by kernel_rfl
theorem cells29 : Try.prog.cellsOf 29 = 36 := by kernel_rfl
theorem cells46 : Try.prog.cellsOf 46 = 35 := by kernel_rfl
theorem cells47 : Try.prog.cellsOf 47 = 64 := by kernel_rfl
theorem cells22 : Try.prog.cellsOf 22 = 1 := by kernel_rfl
theorem cells23 : Try.prog.cellsOf 23 = 1 := by kernel_rfl
theorem cells4 : Try.prog.cellsOf 4 = 1 := by kernel_rfl
theorem st29 : Try.prog.underlying 29 = some (.struct (Try.prog.fieldsOf 29)) := by kernel_rfl
theorem st27 : Try.prog.underlying 27 = some (.struct (Try.prog.fieldsOf 27)) := by kernel_rfl
theorem st46 : Try.prog.underlying 46 = some (.struct (Try.prog.fieldsOf 46)) := by kernel_rfl
theorem fields_at {t : TypeId} {l : List (Bool × Nat × Nat)} (h : (Try.prog.fieldsOf t).toList.map (fun f => (decide (f.name ≠ "_"), f.type, f.offset)) = l) (i : Nat) (b : Bool) (ty o : Nat) (hi : l[i]? = some (b, ty, o)) :
    ∃ f, (Try.prog.fieldsOf t)[i]? = some f ∧ f.type = ty ∧ f.offset = o := by
  rw [← h, List.getElem?_map, Option.map_eq_some_iff] at hi
  obtain ⟨f, hf, he⟩ := hi
  rw [Array.getElem?_toList] at hf
  simp only [Prod.mk.injEq] at he
  exact ⟨f, hf, he.2.1, he.2.2⟩
theorem trod_field {H : Type} {enc : TypeId × Value → H} {w : World} {base : Nat} {t : TypeId} {fuel : Nat} {cs : List Value} {x : DataW H × List MemPlace} (ht : Try.prog.underlying t = some (.struct (Try.prog.fieldsOf t)))
    (h : DataW.trod enc Try.prog w base (fun _ => true) true fuel t cs = some x) {l : List (Bool × Nat × Nat)} (hl : (Try.prog.fieldsOf t).toList.map (fun f => (decide (f.name ≠ "_"), f.type, f.offset)) = l)
    (i : Nat) (b : Bool) (ty o : Nat) (hi : l[i]? = some (b, ty, o)) : ∃ m y, DataW.trod enc Try.prog w base (fun _ => true) true m ty ((cs.drop o).take (Try.prog.cellsOf ty)) = some y := by
  obtain ⟨xs, m, _, _, _, hxl, hfi⟩ := DataW.trod_struct ht h
  obtain ⟨f, hf, rfl, rfl⟩ := fields_at hl i b ty o hi
  have hlt : i < (Try.prog.fieldsOf t).size := (Array.getElem?_eq_some_iff.1 hf).1
  have := hfi i f hf
  rw [List.getElem?_eq_getElem (by omega)] at this
  exact ⟨m, _, this⟩
set_option maxRecDepth 100000 in
theorem open_arr64 {H : Type} {enc : TypeId × Value → H} {w : World} {r : Reach} {b0 base : Nat} {v : Value} {d : DataW H} {ps : List MemPlace}
    (hval : Value.okWide Try.prog w r b0 47 v) (hd : DataW.Trod enc Try.prog w base (fun _ => true) true 47 v d ps) : ∃ l : List Int, Byt l ∧ l.length = 64 ∧ v = .agg (bcells l) := by
  unfold Value.okWide at hval
  simp only [show Try.prog.underlying 47 = some (.array 64 5) from by kernel_rfl] at hval
  obtain ⟨cs, rfl, hsz, _⟩ := hval
  obtain ⟨fuel, hf⟩ := hd
  obtain ⟨ys, h1, h2, h3⟩ := trod_bytes (t := 47) (by kernel_rfl) cells47 hf
  refine ⟨ys, h1, h2, ?_⟩
  congr 1
  apply Array.ext'
  rw [bcells_toList, ← h3]
  rfl
theorem f29 : (Try.prog.fieldsOf 29).toList.map (fun f => (decide (f.name ≠ "_"), f.type, f.offset)) = [(true, 22, 0), (true, 22, 1), (true, 4, 2), (true, 27, 3)] := by kernel_rfl
theorem f27 : (Try.prog.fieldsOf 27).toList.map (fun f => (decide (f.name ≠ "_"), f.type, f.offset)) = [(true, 23, 0), (true, 25, 1)] := by kernel_rfl
theorem f46 : (Try.prog.fieldsOf 46).toList.map (fun f => (decide (f.name ≠ "_"), f.type, f.offset)) = [(true, 25, 0), (true, 22, 32), (true, 22, 33), (true, 5, 34)] := by kernel_rfl
theorem take_split (cs : List Value) (n : Nat) : cs = cs.take n ++ cs.drop n := (List.take_append_drop n cs).symm
set_option maxRecDepth 100000 in
theorem open_head {H : Type} {enc : TypeId × Value → H} {w : World} {r : Reach} {b0 base : Nat} {v : Value} {d : DataW H} {ps : List MemPlace}
    (hval : Value.okWide Try.prog w r b0 29 v) (hd : DataW.Trod enc Try.prog w base (fun _ => true) true 29 v d ps) : ∃ h : Hd, h.ok ∧ v = .agg (hcells h) := by
  obtain ⟨cs, rfl, hsz⟩ := okWide_struct st29 hval
  rw [cells29] at hsz
  obtain ⟨fuel, hf⟩ := hd
  have hf' : DataW.trod enc Try.prog w base (fun _ => true) true fuel 29 cs.toList = some (d, ps) := hf
  obtain ⟨m0, y0, h0⟩ := trod_field st29 hf' f29 0 true 22 0 rfl
  obtain ⟨m1, y1, h1⟩ := trod_field st29 hf' f29 1 true 22 1 rfl
  obtain ⟨m2, y2, h2⟩ := trod_field st29 hf' f29 2 true 4 2 rfl
  obtain ⟨m3, y3, h3⟩ := trod_field st29 hf' f29 3 true 27 3 rfl
  obtain ⟨m4, y4, h4⟩ := trod_field st27 h3 f27 0 true 23 0 rfl
  obtain ⟨m5, y5, h5⟩ := trod_field st27 h3 f27 1 true 25 1 rfl
  rw [cells22] at h0 h1
  rw [cells4] at h2
  rw [cells27] at h4 h5
  rw [cells23] at h4
  rw [cells25] at h5
  obtain ⟨a, ha, _, wa⟩ := DataW.trod_int (k := .u64) (by kernel_rfl) h0
  obtain ⟨b, hb, _, wb⟩ := DataW.trod_int (k := .u64) (by kernel_rfl) h1
  obtain ⟨c, hc, _⟩ := DataW.trod_bool Try.underlying4 h2
  obtain ⟨s, hs, _, ws⟩ := DataW.trod_int (k := .u32) (by kernel_rfl) h4
  obtain ⟨z, bz, lz, hz⟩ := trod_bytes (by kernel_rfl) cells25 h5
  refine ⟨⟨a, b, c, s, z⟩, ⟨bounds_u64 wa, bounds_u64 wb, bounds_u32 ws, bz, lz⟩, ?_⟩
  congr 1
  apply Array.ext'
  rw [hcells_toList]
  show cs.toList = [Value.int .u64 a, .int .u64 b, .bool c, .int .u32 s] ++ z.map (Value.int .u8)
  have hcl : cs.toList.length = 36 := by simpa using hsz
  generalize cs.toList = L at *
  have e0 : (L.drop 3).take 33 = L.drop 3 := List.take_of_length_le (by rw [List.length_drop, hcl]; omega)
  rw [e0, List.drop_zero] at hs
  rw [e0, List.drop_drop, List.take_of_length_le (by rw [List.length_drop, hcl]; omega)] at hz
  rw [List.drop_zero] at ha
  have e1 := take_split L 1
  have e2 := take_split (L.drop 1) 1
  have e3 := take_split (L.drop 2) 1
  have e4 := take_split (L.drop 3) 1
  rw [List.drop_drop] at e2 e3 e4
  rw [ha] at e1
  rw [hb] at e2
  rw [hc] at e3
  rw [hs, hz] at e4
  rw [e1, e2, e3, e4]
  rfl
set_option maxRecDepth 100000 in
theorem open_reg {H : Type} {enc : TypeId × Value → H} {w : World} {r : Reach} {b0 base : Nat} {v : Value} {d : DataW H} {ps : List MemPlace}
    (hval : Value.okWide Try.prog w r b0 46 v) (hd : DataW.Trod enc Try.prog w base (fun _ => true) true 46 v d ps) : ∃ R : Rg, R.ok ∧ v = .agg (gcells R) := by
  obtain ⟨cs, rfl, hsz⟩ := okWide_struct st46 hval
  rw [cells46] at hsz
  obtain ⟨fuel, hf⟩ := hd
  have hf' : DataW.trod enc Try.prog w base (fun _ => true) true fuel 46 cs.toList = some (d, ps) := hf
  obtain ⟨m0, y0, h0⟩ := trod_field st46 hf' f46 0 true 25 0 rfl
  obtain ⟨m1, y1, h1⟩ := trod_field st46 hf' f46 1 true 22 32 rfl
  obtain ⟨m2, y2, h2⟩ := trod_field st46 hf' f46 2 true 22 33 rfl
  obtain ⟨m3, y3, h3⟩ := trod_field st46 hf' f46 3 true 5 34 rfl
  rw [cells25] at h0
  rw [cells22] at h1 h2
  rw [cells5] at h3
  obtain ⟨z, bz, lz, hz⟩ := trod_bytes (by kernel_rfl) cells25 h0
  obtain ⟨a, ha, _, wa⟩ := DataW.trod_int (k := .u64) (by kernel_rfl) h1
  obtain ⟨b, hb, _, wb⟩ := DataW.trod_int (k := .u64) (by kernel_rfl) h2
  obtain ⟨c, hc, _, wc⟩ := DataW.trod_int Try.underlying5 h3
  refine ⟨⟨z, a, b, c⟩, ⟨bounds_u64 wa, bounds_u64 wb, bounds_u8 wc, bz, lz⟩, ?_⟩
  congr 1
  apply Array.ext'
  rw [gcells_toList]
  show cs.toList = z.map (Value.int .u8) ++ [Value.int .u64 a, .int .u64 b, .int .u8 c]
  have hcl : cs.toList.length = 35 := by simpa using hsz
  generalize cs.toList = L at *
  rw [List.drop_zero] at hz
  have e1 := take_split L 32
  have e2 := take_split (L.drop 32) 1
  have e3 := take_split (L.drop 33) 1
  have e4 := take_split (L.drop 34) 1
  rw [List.drop_drop] at e2 e3 e4
  rw [hz] at e1
  rw [ha] at e2
  rw [hb] at e3
  rw [hc] at e4
  have e5 : L.drop (34 + 1) = [] := List.drop_eq_nil_of_le (by rw [hcl]; omega)
  rw [e5] at e4
  rw [e1, e2, e3, e4]
  rfl
end Go.Proofs.Ytplffbpnjnbolaa
