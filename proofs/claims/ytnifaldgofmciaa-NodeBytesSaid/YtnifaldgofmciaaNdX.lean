/-
  From a law's inputs to the relations of this seat; the step from a walk to a row. Condition: the arguments' types can be read.
-/
import Derived.Test.YtnifaldgofmciaaRows
import Derived.Test.YtnifaldgofmciaaNdW
import Derived.ProofKit
import Derived.OpenShut
import Derived.Below
import Derived.Deep.Slices
namespace Go.Proofs.Ytnifaldgofmciaa
open Go.ChangeShapes Go.WideShapes Go.ChangeAt Go.RowKit
open oc (Byt Sees be nth)
theorem own : ownKnob Try.prog.godebug = none := by kernel_rfl
theorem laid : laidOutB Try.prog = true := by kernel_rfl

theorem all_stay {H : Type} {enc : TypeId × Value → H} {P : Program} (hl : laidOutB P = true) {W W' : World} (hb : Below W.heap.size W W') (ts : List TypeId) :
    ∀ (vs : List Value) (ds : List (DataW H)) (ps : List MemPlace), ts.all (fun t => P.readableRec t && decide (t < P.types.size)) = true → (∀ p ∈ ps, p.block < W.heap.size) →
      DataW.TrodAll enc P W 0 (fun _ => true) true ts vs ds ps → DataW.TrodAll enc P W' 0 (fun b => decide (b < W.heap.size)) true ts vs ds ps := by
  induction ts with
  | nil =>
    intro vs ds ps _ _ h
    cases vs <;> cases ds <;> simp_all [DataW.TrodAll]
  | cons t ts ih =>
    intro vs ds ps hr hp h
    cases vs with
    | nil => exact (h : False).elim
    | cons v vs =>
      cases ds with
      | nil => exact (h : False).elim
      | cons d ds =>
        obtain ⟨p, q, h1, h2, e⟩ := h
        subst e
        rw [List.all_cons, Bool.and_eq_true, Bool.and_eq_true] at hr
        exact ⟨p, q, Below.trod hl hr.1.1 (of_decide_eq_true hr.1.2) h1 hb (fun x hx => hp x (List.mem_append_left _ hx)),
          ih vs ds q hr.2 (fun x hx => hp x (List.mem_append_right _ hx)) h2, rfl⟩

theorem law_post {H : Type} {enc : TypeId × Value → H} {f : Func} {s : ChangeSpec} {W W' : World} {args : Array Value} {ds gs : List (DataW H)} {before : List MemPlace}
    (hW : DataW.Whole enc Try.prog f.params.toList s.vars false W args.toList ds gs before) (hv : s.vars = []) (hs : s.fn H (ds ++ gs) = { results := [.lit (.bool true)], args := ds })
    (hr : f.resultTypes = #[4]) (hp : f.params.toList.all (fun t => Try.prog.readableRec t && decide (t < Try.prog.types.size)) = true) (hb : Below W.heap.size W W') :
    s.post enc Try.prog f false true false false W args (.bool true) W' := by
  have hlt : ∀ p ∈ before, p.block < W.heap.size := fun p hp => hW.lt p hp
  have hW' := hW
  obtain ⟨p, q, hA, hV, he, _, _⟩ := hW'
  rw [hv] at hV
  obtain ⟨rfl, rfl⟩ := trodVars_none hV
  subst he
  refine ⟨ds, [], _, [], p, [], hW, ?_, ?_, ?_, ?_, fun h => by cases h⟩
  · rw [hs, hr]
    exact trodAll_mk1 (shut_bool Try.underlying4 _)
  · rw [hs]
    exact all_stay laid hb _ _ _ _ hp (fun x hx => hlt x (List.mem_append_left _ hx)) hA
  · rw [hs, hv]
    rfl
  · exact hb.frame _

theorem cells5 : Try.prog.cellsOf 5 = 1 := by kernel_rfl

set_option maxRecDepth 100000 in
/-- A slice of bytes that came in. -/
theorem open_sees {H : Type} {enc : TypeId × Value → H} {w : World} {r : Reach} {b0 base : Nat} {v : Value} {d : DataW H} {ps : List MemPlace}
    (hval : Value.okWide Try.prog w r b0 27 v) (hd : DataW.Trod enc Try.prog w base (fun _ => true) true 27 v d ps) : ∃ xs, Sees w v xs := by
  obtain ⟨fuel, hf⟩ := hd
  have hv : ∀ c : Value, v.cells.toList = [c] → (∃ x l k, c = .slice x l k) → v = c := by
    intro c hc ⟨x, l, k, hx⟩
    obtain ⟨x', l', k', rfl⟩ := okWide_slice Try.underlying27 hval
    simpa [Value.cells] using hc
  rcases open_ints Try.underlying27 Try.underlying5 cells5 hf with ⟨hc, _⟩ | ⟨a, len, cap, zs, hc, _, hl, hm, hlen, _, hcell, hwf⟩
  · exact ⟨[], by rw [hv _ hc ⟨_, _, _, rfl⟩]; exact ⟨fun _ h => by simp at h, .inl ⟨rfl, rfl⟩⟩⟩
  · have hvv := hv _ hc ⟨_, _, _, rfl⟩
    subst hvv
    rw [if_pos rfl] at hlen
    have hb : Byt (zs.take len) := fun x hx => bounds_u8 (hwf x (List.mem_of_mem_take hx))
    refine ⟨zs.take len, hb, ?_⟩
    by_cases h0 : len = 0
    · subst h0
      exact .inr (.inl ⟨a, cap, rfl, by simp, hm⟩)
    · obtain ⟨b, o, rfl, h2⟩ := ints_at hcell (by omega)
      have hlz : (zs.take len).length = len := by rw [List.length_take]; omega
      refine .inr (.inr ⟨b, o, cap, by rw [hlz], fun e => h0 (by rw [← hlz, e]; rfl), by omega, hm, fun i hi => ?_⟩)
      rw [hlz] at hi
      rw [h2 i (by omega)]
      simp [nth, List.getD, List.getElem?_take_of_lt hi]
def numOf : Value → Int
  | .int _ z => z
  | _ => 0
theorem trod_bytes {H : Type} {enc : TypeId × Value → H} {w : World} {base : Nat} {t : TypeId} {n fuel : Nat} {cs : List Value} {x : DataW H × List MemPlace} (ht : Try.prog.underlying t = some (.array n 5)) (hn : Try.prog.cellsOf t = n)
    (h : DataW.trod enc Try.prog w base (fun _ => true) true fuel t cs = some x) : ∃ ys : List Int, Byt ys ∧ ys.length = n ∧ cs = ys.map (Value.int .u8) := by
  obtain ⟨xs, m, _, _, hl, hxl, hel⟩ := DataW.trod_array ht h
  rw [cells5] at hel
  rw [hn] at hl
  have hc : ∀ i (hi : i < cs.length), ∃ z : Int, (0 ≤ z ∧ z ≤ 255) ∧ cs[i] = .int .u8 z := fun i hi => by
    have h := hel i (by omega)
    have hx : xs[i]? = some xs[i] := List.getElem?_eq_getElem (by omega)
    rw [hx] at h
    obtain ⟨z, hz, _, hw⟩ := DataW.trod_int Try.underlying5 h
    refine ⟨z, bounds_u8 hw, ?_⟩
    rw [Nat.mul_one, List.drop_eq_getElem_cons hi, List.take_succ_cons, List.take_zero] at hz
    exact (List.cons.inj hz).1
  refine ⟨cs.map numOf, fun y hy => ?_, by simp [hl], ?_⟩
  · obtain ⟨v, hv, rfl⟩ := List.mem_map.1 hy
    obtain ⟨i, hi, rfl⟩ := List.getElem_of_mem hv
    obtain ⟨z, hz, e⟩ := hc i hi
    rw [e]; exact hz
  · apply List.ext_getElem
    · simp
    · intro i h1 h2
      obtain ⟨z, hz, e⟩ := hc i h1
      simp [e, numOf]
theorem fields_at {t : TypeId} {l : List (Bool × Nat × Nat)} (h : (Try.prog.fieldsOf t).toList.map (fun f => (decide (f.name ≠ "_"), f.type, f.offset)) = l) (i : Nat) (b : Bool) (ty o : Nat) (hi : l[i]? = some (b, ty, o)) :
    ∃ f, (Try.prog.fieldsOf t)[i]? = some f ∧ f.type = ty ∧ f.offset = o := by
  rw [← h, List.getElem?_map, Option.map_eq_some_iff] at hi
  obtain ⟨f, hf, he⟩ := hi
  rw [Array.getElem?_toList] at hf
  simp only [Prod.mk.injEq] at he
  exact ⟨f, hf, he.2.1, he.2.2⟩
theorem trod_field {H : Type} {enc : TypeId × Value → H} {w : World} {base : Nat} {t : TypeId} {fuel : Nat} {cs : List Value} {x : DataW H × List MemPlace} (ht : Try.prog.underlying t = some (.struct (Try.prog.fieldsOf t)))
    (h : DataW.trod enc Try.prog w base (fun _ => true) true fuel t cs = some x) {l : List (Bool × Nat × Nat)} (hl : (Try.prog.fieldsOf t).toList.map (fun f => (decide (f.name ≠ "_"), f.type, f.offset)) = l)
    (i : Nat) (b : Bool) (ty o : Nat) (hi : l[i]? = some (b, ty, o)) : ∃ m y, DataW.trod enc Try.prog w base (fun _ => true) true m ty ((cs.drop o).take (Try.prog.cellsOf ty)) = some y := by
  obtain ⟨xs, m, _, _, _, hxl, hfi⟩ := DataW.trod_struct ht h
  obtain ⟨f, hf, rfl, rfl⟩ := fields_at hl i b ty o hi
  have hlt : i < (Try.prog.fieldsOf t).size := (Array.getElem?_eq_some_iff.1 hf).1
  have := hfi i f hf
  rw [List.getElem?_eq_getElem (by omega)] at this
  exact ⟨m, _, this⟩

theorem c22 : Try.prog.cellsOf 22 = 1 := by kernel_rfl
theorem c23 : Try.prog.cellsOf 23 = 1 := by kernel_rfl
theorem c24 : Try.prog.cellsOf 24 = 1 := by kernel_rfl
theorem c26 : Try.prog.cellsOf 26 = 4 := by kernel_rfl
theorem c4 : Try.prog.cellsOf 4 = 1 := by kernel_rfl
theorem c52 : Try.prog.cellsOf 52 = 1 := by kernel_rfl
theorem c54 : Try.prog.cellsOf 54 = 44 := by kernel_rfl
theorem c65 : Try.prog.cellsOf 65 = 32 := by kernel_rfl
theorem c67 : Try.prog.cellsOf 67 = 33 := by kernel_rfl
theorem st26 : Try.prog.underlying 26 = some (.struct (Try.prog.fieldsOf 26)) := by kernel_rfl
theorem st67 : Try.prog.underlying 67 = some (.struct (Try.prog.fieldsOf 67)) := by kernel_rfl
theorem fs26 : (Try.prog.fieldsOf 26).toList.map (fun f => (decide (f.name ≠ "_"), f.type, f.offset)) = [(true, 4, 0), (true, 22, 1), (true, 23, 2), (true, 24, 3)] := by kernel_rfl
theorem fs67 : (Try.prog.fieldsOf 67).toList.map (fun f => (decide (f.name ≠ "_"), f.type, f.offset)) = [(true, (Try.prog.fieldsOf 67)[0]!.type, 0), (true, 65, 1)] := by kernel_rfl
theorem u67 : Try.prog.underlying (Try.prog.fieldsOf 67)[0]!.type = some (.int .u32) := by kernel_rfl
theorem k67 : Try.prog.cellsOf (Try.prog.fieldsOf 67)[0]!.type = 1 := by kernel_rfl
/-- A slice of keys that came in. -/
theorem open_keys {H : Type} {enc : TypeId × Value → H} {w : World} {base fuel : Nat} {cs : List Value} {x : DataW H × List MemPlace}
    (h : DataW.trod enc Try.prog w base (fun _ => true) true fuel 22 cs = some x) : ∃ v ks, cs = [v] ∧ KS w v ks := by
  rcases open_ints Try.underlying22 Try.underlying52 c52 h with ⟨hc, _⟩ | ⟨a, len, cap, zs, hc, _, hl, hm, hlen, _, hcell, hwf⟩
  · exact ⟨_, [], hc, by simp, by simp, none, 0, rfl, fun i hi => by simp at hi⟩
  · rw [if_pos rfl] at hlen
    have hlz : (zs.take len).length = len := by rw [List.length_take]; omega
    have hmx : maxLen ≤ 9223372036854775807 := by unfold maxLen; omega
    refine ⟨_, zs.take len, hc, fun k hk => bounds_u64 (hwf k (List.mem_of_mem_take hk)), by omega, some a, cap, by rw [hlz], fun i hi => ?_⟩
    rw [hlz] at hi
    obtain ⟨b, o, rfl, h2⟩ := ints_at hcell (by omega)
    have hc2 := h2 i (by omega)
    refine ⟨b, o, rfl, ?_, ?_⟩
    · refine Decidable.byContradiction fun hb => ?_
      have : w.heap[b]? = none := Array.getElem?_eq_none (by omega)
      simp [World.cell?, this] at hc2
    · rw [hc2]
      simp [List.getD, List.getElem?_take_of_lt hi]
/-- A slice of rows that came in. -/
theorem open_rows {α : Type} [Inhabited α] (f : α → List Value) (C : Nat) (ok : α → Prop) {t e : TypeId} (ht : Try.prog.underlying t = some (.slice e)) (hC : Try.prog.cellsOf e = C) (hC0 : 0 < C)
    {H : Type} {enc : TypeId × Value → H} {w : World} {base fuel : Nat} {cs : List Value} {x : DataW H × List MemPlace}
    (each : ∀ (m : Nat) (cs : List Value) (x : DataW H × List MemPlace), cs.length = C → DataW.trod enc Try.prog w base (fun _ => true) true m e cs = some x → ∃ y : α, ok y ∧ (f y).length = C ∧ cs = f y)
    (h : DataW.trod enc Try.prog w base (fun _ => true) true fuel t cs = some x) : ∃ v ys, cs = [v] ∧ ES f C w v ys ∧ ∀ y ∈ ys, ok y := by
  rcases Go.Deep.open_slice ht h with ⟨hc, _⟩ | ⟨a, len, cap, m, n, D, Pl, hc, _, hl, hm, hlen, _, hel⟩
  · exact ⟨_, [], hc, ⟨by simp, by simp, none, 0, rfl, fun i y hi => by simp at hi⟩, by simp⟩
  · rw [if_pos rfl] at hlen
    subst hlen
    rw [hC] at hel
    have hex : ∀ i, ∃ y : α, i < len → ok y ∧ (f y).length = C ∧ w.cells? base (a.add (i * C)) C = some (f y) := fun i => by
      by_cases hi : i < len
      · obtain ⟨cs', h1, h2⟩ := hel i (by omega)
        obtain ⟨y, h3, h4, rfl⟩ := each _ _ _ (World.cells?_some h1).2.1 h2
        exact ⟨y, fun _ => ⟨h3, h4, h1⟩⟩
      · exact ⟨default, fun h => absurd h hi⟩
    obtain ⟨g, hg⟩ := Classical.axiomOfChoice hex
    have hlz : ((List.range len).map g).length = len := by simp
    have hmx : maxLen ≤ 9223372036854775807 := by unfold maxLen; omega
    refine ⟨_, (List.range len).map g, hc, ⟨by omega, fun y hy => ?_, some a, m, by rw [hlz], fun i y hi => ?_⟩, fun y hy => ?_⟩
    · obtain ⟨i, hi, rfl⟩ := List.mem_map.1 hy
      exact (hg i (List.mem_range.1 hi)).2.1
    · have hil : i < len := by have := (List.getElem?_eq_some_iff.1 hi).1; omega
      have hy : g i = y := by simpa [hil] using hi
      subst hy
      obtain ⟨_, h2, h3⟩ := hg i hil
      obtain ⟨_, _, h4⟩ := World.cells?_some h3
      have hblk := World.cells?_block h3 hC0
      obtain ⟨b, o, s⟩ := a
      obtain ⟨_, h02, h03⟩ := hg 0 (by omega)
      have h40 := (World.cells?_some h03).2.2 0 hC0
      rw [List.getElem?_eq_getElem (by omega)] at h40
      have hs : s = none := by simpa [Addr.add] using World.cell?_spot h40
      subst hs
      rw [add_plain] at hblk
      refine ⟨b, o, rfl, hblk, fun j v hj => ?_⟩
      have := h4 j (by have := (List.getElem?_eq_some_iff.1 hj).1; omega)
      rw [add_plain, add_plain, hj] at this
      exact this
    · obtain ⟨i, hi, rfl⟩ := List.mem_map.1 hy
      exact (hg i (List.mem_range.1 hi)).1
theorem open_kid {H : Type} {enc : TypeId × Value → H} {w : World} {base m : Nat} {cs : List Value} {x : DataW H × List MemPlace} (hl : cs.length = 33)
    (h : DataW.trod enc Try.prog w base (fun _ => true) true m 67 cs = some x) : ∃ p : Int × List Int, ((0 ≤ p.1 ∧ p.1 ≤ 4294967295) ∧ Byt p.2 ∧ p.2.length = 32) ∧ cs = kid p := by
  obtain ⟨m0, y0, h0⟩ := trod_field st67 h fs67 0 true _ 0 rfl
  obtain ⟨m1, y1, h1⟩ := trod_field st67 h fs67 1 true 65 1 rfl
  rw [k67] at h0
  rw [c65] at h1
  obtain ⟨s, hs, _, ws⟩ := DataW.trod_int u67 h0
  obtain ⟨z, bz, lz, hz⟩ := trod_bytes (by kernel_rfl) c65 h1
  refine ⟨(s, z), ⟨bounds_u32 ws, bz, lz⟩, ?_⟩
  rw [List.drop_zero] at hs
  rw [List.take_of_length_le (by rw [List.length_drop]; omega)] at hz
  have := (List.take_append_drop 1 cs).symm
  rw [hs, hz] at this
  exact this
theorem open_kids {H : Type} {enc : TypeId × Value → H} {w : World} {base fuel : Nat} {cs : List Value} {x : DataW H × List MemPlace}
    (h : DataW.trod enc Try.prog w base (fun _ => true) true fuel 24 cs = some x) : ∃ v qs, cs = [v] ∧ ES kid 33 w v qs ∧ ∀ p ∈ qs, (0 ≤ p.1 ∧ p.1 ≤ 4294967295) ∧ (∀ x ∈ p.2, 0 ≤ x ∧ x ≤ 255) ∧ p.2.length = 32 :=
  open_rows kid 33 (fun p => (0 ≤ p.1 ∧ p.1 ≤ 4294967295) ∧ (∀ x ∈ p.2, 0 ≤ x ∧ x ≤ 255) ∧ p.2.length = 32) Try.underlying24 c67 (by decide) (fun m cs x hl h => by
    obtain ⟨p, ⟨h1, h2, h3⟩, rfl⟩ := open_kid hl h
    exact ⟨p, ⟨h1, h2, h3⟩, by simp [kid, h3], rfl⟩) h
set_option maxRecDepth 100000 in
/-- A node that came in. -/
theorem open_node {H : Type} {enc : TypeId × Value → H} {w : World} {r : Reach} {b0 base : Nat} {v : Value} {d : DataW H} {ps : List MemPlace}
    (hval : Value.okWide Try.prog w r b0 26 v) (hd : DataW.Trod enc Try.prog w base (fun _ => true) true 26 v d ps) : ∃ n : NV, ND w v n ∧ n.okP ∧ ∀ p ∈ n.qs, 0 ≤ p.1 ∧ p.1 ≤ 4294967295 := by
  obtain ⟨cs, rfl, hsz⟩ := okWide_struct st26 hval
  rw [c26] at hsz
  obtain ⟨fuel, hf⟩ := hd
  have hf' : DataW.trod enc Try.prog w base (fun _ => true) true fuel 26 cs.toList = some (d, ps) := hf
  obtain ⟨m0, y0, h0⟩ := trod_field st26 hf' fs26 0 true 4 0 rfl
  obtain ⟨m1, y1, h1⟩ := trod_field st26 hf' fs26 1 true 22 1 rfl
  obtain ⟨m2, y2, h2⟩ := trod_field st26 hf' fs26 2 true 23 2 rfl
  obtain ⟨m3, y3, h3⟩ := trod_field st26 hf' fs26 3 true 24 3 rfl
  rw [c4] at h0
  rw [c22] at h1
  rw [c23] at h2
  rw [c24] at h3
  obtain ⟨c, hc, _⟩ := DataW.trod_bool Try.underlying4 h0
  obtain ⟨K, ks, hK, kK⟩ := open_keys h1
  obtain ⟨V, vs, hV, kV, oV⟩ := open_rows val 44 (fun z => (∀ x ∈ z, 0 ≤ x ∧ x ≤ 255) ∧ z.length = 44) Try.underlying23 c54 (by decide) (fun m cs x _ h => by
    obtain ⟨ys, b, l, rfl⟩ := trod_bytes (t := 54) (n := 44) (by kernel_rfl) c54 h
    exact ⟨ys, ⟨b, l⟩, by simp [val, l], rfl⟩) h2
  obtain ⟨Q, qs, hQ, kQ, oQ⟩ := open_kids h3
  refine ⟨⟨c, ks, vs, qs⟩, ⟨K, V, Q, ?_, kK, kV, kQ, oV, fun p hp => (oQ p hp).2⟩, ⟨kK.1, oV, fun p hp => (oQ p hp).2⟩, fun p hp => (oQ p hp).1⟩
  congr 1
  apply Array.ext'
  have hcl : cs.toList.length = 4 := by simpa using hsz
  generalize cs.toList = L at *
  match L, hcl with
  | [p, q, r, s], _ =>
    simp at hc hK hV hQ
    subst hc hK hV hQ
    rfl
end Go.Proofs.Ytnifaldgofmciaa
