/-
  How slots come in: an argument of type Slot is 104 bytes. No condition.
-/
import Derived.Test.YtplffbpnjnbolaaSlF
import Derived.Test.YtplffbpnjnbolaaL
namespace Go.Proofs.Ytplffbpnjnbolaa
open Go.ChangeShapes Go.WideShapes Go.ChangeAt Go.RowKit
def numOf : Value → Int
  | .int _ z => z
  | _ => 0
theorem trod_bytes {H : Type} {enc : TypeId × Value → H} {w : World} {base : Nat} {t : TypeId} {n fuel : Nat} {cs : List Value} {x : DataW H × List MemPlace} (ht : Try.prog.underlying t = some (.array n 5)) (hn : Try.prog.cellsOf t = n)
    (h : DataW.trod enc Try.prog w base (fun _ => true) true fuel t cs = some x) : ∃ ys : List Int, Byt ys ∧ ys.length = n ∧ cs = ys.map (Value.int .u8) := by
  obtain ⟨xs, m, _, _, hl, hxl, hel⟩ := DataW.trod_array ht h
  rw [cells5] at hel
  rw [hn] at hl
  have hc : ∀ i (hi : i < cs.length), ∃ z : Int, (0 ≤ z ∧ z ≤ 255) ∧ cs[i] = .int .u8 z := fun i hi => by
    have h := hel i (by omega)
    have hx : xs[i]? = some xs[i] := List.getElem?_eq_getElem (by omega)
    rw [hx] at h
    obtain ⟨z, hz, _, hw⟩ := DataW.trod_int Try.underlying5 h
    refine ⟨z, bounds_u8 hw, ?_⟩
    rw [Nat.mul_one, List.drop_eq_getElem_cons hi, List.take_succ_cons, List.take_zero] at hz
    exact (List.cons.inj hz).1
  refine ⟨cs.map numOf, fun y hy => ?_, by simp [hl], ?_⟩
  · obtain ⟨v, hv, rfl⟩ := List.mem_map.1 hy
    obtain ⟨i, hi, rfl⟩ := List.getElem_of_mem hv
    obtain ⟨z, hz, e⟩ := hc i hi
    rw [e]; exact hz
  · apply List.ext_getElem
    · simp
    · intro i h1 h2
      obtain ⟨z, hz, e⟩ := hc i h1
      simp [e, numOf]
theorem cells24 : Try.prog.cellsOf 24 = 32 := by kernel_rfl
theorem cells59 : Try.prog.cellsOf 59 = 40 := by kernel_rfl
theorem cells61 : Try.prog.cellsOf 61 = 104 := by kernel_rfl
theorem st61 : Try.prog.underlying 61 = some (.struct (Try.prog.fieldsOf 61)) := by kernel_rfl
set_option maxRecDepth 100000 in
theorem open_slot {H : Type} {enc : TypeId × Value → H} {w : World} {r : Reach} {b0 base : Nat} {v : Value} {d : DataW H} {ps : List MemPlace}
    (hval : Value.okWide Try.prog w r b0 61 v) (hd : DataW.Trod enc Try.prog w base (fun _ => true) true 61 v d ps) : ∃ l : List Int, Byt l ∧ l.length = 104 ∧ v = .agg (bcells l) := by
  obtain ⟨cs, rfl, hsz⟩ := okWide_struct st61 hval
  rw [cells61] at hsz
  obtain ⟨fuel, hf⟩ := hd
  obtain ⟨xs, m, _, _, hl, hxl, hfi⟩ := DataW.trod_struct st61 hf
  have hff : (Try.prog.fieldsOf 61).toList.map (fun f => (decide (f.name ≠ "_"), f.type, f.offset)) = [(true, 24, 0), (true, 24, 32), (true, 59, 64)] := by kernel_rfl
  obtain ⟨f1, r1, e1, a1, b1, c1, g1⟩ := fields_cons hff
  obtain ⟨f2, r2, e2, a2, b2, c2, g2⟩ := fields_cons g1
  obtain ⟨f3, r3, e3, a3, b3, c3, g3⟩ := fields_cons g2
  have hsz3 : xs.length = 3 := by
    rw [hxl, ← Array.length_toList]
    have := congrArg List.length hff
    simpa using this
  have h0 := hfi 0 f1 (by rw [← Array.getElem?_toList, e1]; rfl)
  have h1 := hfi 1 f2 (by rw [← Array.getElem?_toList, e1, e2]; rfl)
  have h2 := hfi 2 f3 (by rw [← Array.getElem?_toList, e1, e2, e3]; rfl)
  rw [b1, c1, cells24, List.getElem?_eq_getElem (by omega)] at h0
  rw [b2, c2, cells24, List.getElem?_eq_getElem (by omega)] at h1
  rw [b3, c3, cells59, List.getElem?_eq_getElem (by omega)] at h2
  obtain ⟨y0, by0, ly0, ey0⟩ := trod_bytes (by kernel_rfl) cells24 h0
  obtain ⟨y1, by1, ly1, ey1⟩ := trod_bytes (by kernel_rfl) cells24 h1
  obtain ⟨y2, by2, ly2, ey2⟩ := trod_bytes (by kernel_rfl) cells59 h2
  refine ⟨y0 ++ y1 ++ y2, (by0.append by1).append by2, by simp [ly0, ly1, ly2], ?_⟩
  congr 1
  apply Array.ext'
  rw [bcells_toList, List.map_append, List.map_append, ← ey0, ← ey1, ← ey2]
  have hcl : cs.toList.length = 104 := by simpa using hsz
  show cs.toList = ((cs.toList.drop 0).take 32 ++ (cs.toList.drop 32).take 32) ++ (cs.toList.drop 64).take 40
  have e1 : cs.toList.drop 32 = (cs.toList.drop 32).take 32 ++ cs.toList.drop 64 := by
    have := (List.take_append_drop 32 (cs.toList.drop 32)).symm
    rwa [List.drop_drop] at this
  have e2 : (cs.toList.drop 64).take 40 = cs.toList.drop 64 := List.take_of_length_le (by rw [List.length_drop, hcl]; omega)
  rw [e2, List.append_assoc, ← e1, List.drop_zero, List.take_append_drop]
theorem wpAnyH_mono {P : Program} {ops : Array Oper} {Q : Exit → Act → World → Prop} {md : Region.Mode} {S S' : World → Prop} (hS : ∀ w, S' w → S w) : ∀ (fuel : Nat) (listed : Array Bool) (a : Act) (w : World), wpAnyH P md ops Q S' fuel listed a w → wpAnyH P md ops Q S fuel listed a w
  | 0, _, _, _, h => h
  | fuel + 1, _, _, _, h => ⟨h.1, fun i hi => wpOp_mono (fun a' w' h' => ⟨hS _ h'.1, wpAnyH_mono hS fuel _ a' w' h'.2⟩) (h.2 i hi)⟩
end Go.Proofs.Ytplffbpnjnbolaa
