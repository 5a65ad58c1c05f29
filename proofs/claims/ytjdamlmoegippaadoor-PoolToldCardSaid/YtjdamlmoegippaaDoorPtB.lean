/-
  Steps of PoolTold's walk: slices built, appends whose run is known; slices of bytes and of texts that came in, cell by cell; bytes of the caller's own as a sector. Condition: none.
-/
import Derived.Test.YtjdamlmoegippaaDoorRows
import Derived.Test.YtjdamlmoegippaaDoorTie
import Derived.Test.YtjdamlmoegippaaDoorCards
import Derived.Test.YtjdamlmoegippaaDoorHlSl
import Derived.ProofKit
import Derived.LaidMore
import Derived.OpenShut
import Derived.Stop.Joined
import Derived.SevenTiedAt
import Derived.Test.YtjdamlmoegippaaDoorHlSums
import Derived.Deep.Matrix
import Derived.Test.YtjdamlmoegippaaDoorPtA
namespace Go.Proofs.YtjdamlmoegippaaDoor.hl
open Go.ChangeShapes Go.WideShapes Go.ChangeAt Go.RowKit

theorem own : ownKnob Tryd.prog.godebug = none := by kernel_rfl
theorem laid : laidOutB Tryd.prog = true := by kernel_rfl
theorem gSq : Tryd.prog.globalNamed "casemate/sha.squareRoots" = some 0 := by kernel_rfl
theorem gCb : Tryd.prog.globalNamed "casemate/sha.cubeRoots" = some 1 := by kernel_rfl
theorem tSq : (Tryd.prog.globals[0]?).map (·.type) = some 127 := by kernel_rfl
theorem tCb : (Tryd.prog.globals[1]?).map (·.type) = some 133 := by kernel_rfl
theorem cells39 : Tryd.prog.cellsOf 22 = 1 := by kernel_rfl
def laid2 : List (String × DataW Unit) := [("casemate/sha.squareRoots", Rows.laid_casemate_sha_squareRoots), ("casemate/sha.cubeRoots", Rows.laid_casemate_sha_cubeRoots)]
theorem sq_datum {H : Type} : (Rows.laid_casemate_sha_squareRoots : DataW H) = .agg (SQ.map fun n => .lit (.int .u32 n)) := rfl
theorem cb_datum {H : Type} : (Rows.laid_casemate_sha_cubeRoots : DataW H) = .agg (KK.map fun n => .lit (.int .u32 n)) := rfl
/-- An array of numbers of 32 digits that reads as a datum: its cells. -/
theorem row_cells {H : Type} {enc : TypeId × Value → H} {W : World} {base : Nat} {spare : Nat → Bool} {held : Bool} {fuel n : Nat} {t : TypeId} {cs : List Value} {L : List Int} {ps : List MemPlace} (ht : Tryd.prog.underlying t = some (.array n 22)) (hL : L.length = n) (hc : Tryd.prog.cellsOf t = n)
    (h : DataW.trod enc Tryd.prog W base spare held fuel t cs = some (.agg (L.map fun n => .lit (.int .u32 n)), ps)) : ∀ j, j < n → cs[j]? = some (.int .u32 (nth L j)) := by
  obtain ⟨xs, m, rfl, hx, hlen, hn, hel⟩ := DataW.trod_array ht h
  intro j hj
  have h1 := hel j hj
  rw [cells39, Nat.mul_one] at h1
  have hxj : xs[j]? = some xs[j] := List.getElem?_eq_getElem (by omega)
  rw [hxj] at h1
  obtain ⟨k, e1, e2, _⟩ := DataW.trod_int Tryd.underlying22 h1
  simp only [Prod.mk.injEq, DataW.agg.injEq] at hx
  have hm : (xs.map (·.1))[j]? = some (.lit (.int .u32 (nth L j))) := by
    rw [← hx.1]
    simp [nth, List.getD, show j < L.length by omega]
  rw [List.getElem?_map, hxj, e2] at hm
  simp only [Option.map_some, Option.some.injEq, DataW.lit.injEq, Lit.int.injEq, true_and] at hm
  subst hm
  have hjc : j < cs.length := by omega
  have h2 : ((cs.drop j).take 1)[0]? = some (.int .u32 (nth L j)) := by rw [e1]; rfl
  rw [List.getElem?_take_of_lt (by omega), List.getElem?_drop, Nat.add_zero] at h2
  exact h2
theorem of_laid {W : World} (h : laidMetH Tryd.prog laid2 W) : Glob W := by
  rw [MakeChecks.laidMetH_plain _ _ _ (by kernel_rfl)] at h
  obtain ⟨ps, ⟨g0, t0, cs0, f0, p0, q0, hg0, ht0, hv0, hd0, ⟨g1, t1, cs1, f1, p1, q1, hg1, ht1, hv1, hd1, _, _⟩, _⟩, _, _⟩ := h
  obtain rfl := Option.some.inj (gSq.symm.trans hg0)
  obtain rfl := Option.some.inj (gCb.symm.trans hg1)
  obtain rfl := Option.some.inj (tSq.symm.trans ht0)
  obtain rfl := Option.some.inj (tCb.symm.trans ht1)
  rw [sq_datum] at hd0
  rw [cb_datum] at hd1
  refine ⟨fun j hj => ?_, fun j hj => ?_⟩
  · rw [World.var?_cell hg0 hv0 j]
    have := row_cells Tryd.underlying127 rfl (by kernel_rfl) hd0 j hj
    simpa using this
  · rw [World.var?_cell hg1 hv1 j]
    have := row_cells Tryd.underlying133 rfl (by kernel_rfl) hd1 j hj
    simpa using this
/-- The door's own heap meets the premise: three closed facts. -/
theorem door_met (os : Os) (args : Array Value) : laidMetH Tryd.prog laid2 ((World.doorLaid Tryd.prog 400 os).forCall (fun _ _ => 0) ⟨#[], args, []⟩).memory :=
  laidMetH_of_parts3 (fuel := 8) (laidMet_of_run' 8 (by kernel_rfl) (by kernel_rfl)) (by kernel_rfl) (by kernel_rfl)
theorem all_stay {H : Type} {enc : TypeId × Value → H} {P : Program} (hl : laidOutB P = true) {W W' : World} (hb : Below W.heap.size W W') (ts : List TypeId) :
    ∀ (vs : List Value) (ds : List (DataW H)) (ps : List MemPlace), ts.all (fun t => P.readableRec t && decide (t < P.types.size)) = true → (∀ p ∈ ps, p.block < W.heap.size) →
      DataW.TrodAll enc P W 0 (fun _ => true) true ts vs ds ps → DataW.TrodAll enc P W' 0 (fun b => decide (b < W.heap.size)) true ts vs ds ps := by
  induction ts with
  | nil =>
    intro vs ds ps _ _ h
    cases vs <;> cases ds <;> simp_all [DataW.TrodAll]
  | cons t ts ih =>
    intro vs ds ps hr hp h
    cases vs with
    | nil => exact (h : False).elim
    | cons v vs =>
      cases ds with
      | nil => exact (h : False).elim
      | cons d ds =>
        obtain ⟨p, q, h1, h2, e⟩ := h
        subst e
        rw [List.all_cons, Bool.and_eq_true, Bool.and_eq_true] at hr
        exact ⟨p, q, Below.trod hl hr.1.1 (of_decide_eq_true hr.1.2) h1 hb (fun x hx => hp x (List.mem_append_left _ hx)),
          ih vs ds q hr.2 (fun x hx => hp x (List.mem_append_right _ hx)) h2, rfl⟩
theorem law_post {H : Type} {enc : TypeId × Value → H} {f : Func} {s : ChangeSpec} {W W' : World} {args : Array Value} {ds gs : List (DataW H)} {before : List MemPlace}
    (hW : DataW.Whole enc Tryd.prog f.params.toList s.vars false W args.toList ds gs before) (hv : s.vars = []) (hs : s.fn H (ds ++ gs) = { results := [.lit (.bool true)], args := ds })
    (hr : f.resultTypes = #[4]) (hp : f.params.toList.all (fun t => Tryd.prog.readableRec t && decide (t < Tryd.prog.types.size)) = true) (hb : Below W.heap.size W W') :
    s.post enc Tryd.prog f false true false false W args (.bool true) W' := by
  have hlt : ∀ p ∈ before, p.block < W.heap.size := fun p hp => hW.lt p hp
  have hW' := hW
  obtain ⟨p, q, hA, hV, he, _, _⟩ := hW'
  rw [hv] at hV
  obtain ⟨rfl, rfl⟩ := trodVars_none hV
  subst he
  refine ⟨ds, [], _, [], p, [], hW, ?_, ?_, ?_, ?_, fun h => by cases h⟩
  · rw [hs, hr]
    exact trodAll_mk1 (shut_bool Tryd.underlying4 _)
  · rw [hs]
    exact all_stay laid hb _ _ _ _ hp (fun x hx => hlt x (List.mem_append_left _ hx)) hA
  · rw [hs, hv]
    rfl
  · exact hb.frame _
theorem cells5 : Tryd.prog.cellsOf 5 = 1 := by kernel_rfl
set_option maxRecDepth 100000 in
/-- A slice of bytes that came in. -/
theorem open_sees {H : Type} {enc : TypeId × Value → H} {w : World} {r : Reach} {b0 base : Nat} {v : Value} {d : DataW H} {ps : List MemPlace}
    (hval : Value.okWide Tryd.prog w r b0 37 v) (hd : DataW.Trod enc Tryd.prog w base (fun _ => true) true 37 v d ps) : ∃ xs, Sees w v xs := by
  obtain ⟨fuel, hf⟩ := hd
  have hv : ∀ c : Value, v.cells.toList = [c] → (∃ x l k, c = .slice x l k) → v = c := by
    intro c hc ⟨x, l, k, hx⟩
    obtain ⟨x', l', k', rfl⟩ := okWide_slice Tryd.underlying37 hval
    simpa [Value.cells] using hc
  rcases open_ints Tryd.underlying37 Tryd.underlying5 cells5 hf with ⟨hc, _⟩ | ⟨a, len, cap, zs, hc, _, hl, hm, hlen, _, hcell, hwf⟩
  · exact ⟨[], by rw [hv _ hc ⟨_, _, _, rfl⟩]; exact ⟨fun _ h => by simp at h, .inl ⟨rfl, rfl⟩⟩⟩
  · have hvv := hv _ hc ⟨_, _, _, rfl⟩
    subst hvv
    rw [if_pos rfl] at hlen
    have hb : Byt (zs.take len) := fun x hx => bounds_u8 (hwf x (List.mem_of_mem_take hx))
    refine ⟨zs.take len, hb, ?_⟩
    by_cases h0 : len = 0
    · subst h0
      exact .inr (.inl ⟨a, cap, rfl, by simp, hm⟩)
    · obtain ⟨b, o, rfl, h2⟩ := ints_at hcell (by omega)
      have hlz : (zs.take len).length = len := by rw [List.length_take]; omega
      refine .inr (.inr ⟨b, o, cap, by rw [hlz], fun e => h0 (by rw [← hlz, e]; rfl), by omega, hm, fun i hi => ?_⟩)
      rw [hlz] at hi
      rw [h2 i (by omega)]
      simp [nth, List.getD, List.getElem?_take_of_lt hi]
end Go.Proofs.YtjdamlmoegippaaDoor.hl
namespace Go.Proofs.YtjdamlmoegippaaDoor.hl
open Go.ChangeShapes Go.WideShapes Go.ChangeAt Go.RowKit
/-- The slice v reads, in w, as texts, however many. -/
def SeesM (w : World) (v : Value) (xss : List (List Int)) : Prop :=
  (∃ x cap, v = .slice x 0 cap ∧ xss = []) ∨ ∃ b o cap, v = .slice (some ⟨b, o, none⟩) xss.length cap ∧ xss ≠ [] ∧ xss.length ≤ maxLen ∧ xss.length ≤ cap ∧ ∀ i, i < xss.length → ∃ u, w.cell? ⟨b, o + i, none⟩ = some u ∧ Sees w u (xss.getD i [])
theorem cells37 : Tryd.prog.cellsOf 37 = 1 := by kernel_rfl
set_option maxRecDepth 100000 in
theorem open_texts {H : Type} {enc : TypeId × Value → H} {w : World} {r : Reach} {b0 base : Nat} {v : Value} {d : DataW H} {ps : List MemPlace}
    (hval : Value.okWide Tryd.prog w r b0 55 v) (hd : DataW.Trod enc Tryd.prog w base (fun _ => true) true 55 v d ps) : ∃ xss, SeesM w v xss := by
  obtain ⟨fuel, hf⟩ := hd
  have hv : ∀ c : Value, v.cells.toList = [c] → (∃ x l k, c = .slice x l k) → v = c := by
    intro c hc ⟨x, l, k, hx⟩
    obtain ⟨x', l', k', rfl⟩ := okWide_slice Tryd.underlying55 hval
    simpa [Value.cells] using hc
  rcases Deep.open_int_rows Tryd.underlying55 Tryd.underlying37 Tryd.underlying5 cells37 cells5 hf with ⟨hc, _⟩ | ⟨a, len, cap, A, L, C, Z, hc, _, hl, hm, _, hcell⟩
  · exact ⟨[], .inl ⟨_, _, hv _ hc ⟨_, _, _, rfl⟩, rfl⟩⟩
  · have hvv := hv _ hc ⟨_, _, _, rfl⟩
    subst hvv
    by_cases h0 : len = 0
    · subst h0; exact ⟨[], .inl ⟨_, _, rfl, rfl⟩⟩
    · have hplain : ∃ b o, a = ⟨b, o, none⟩ ∧ ∀ i, a.add i = ⟨b, o + i, none⟩ := by
        obtain ⟨b, o, spot⟩ := a
        have hspot : spot = none := by simpa [Addr.add] using World.cell?_spot (hcell 0 (by omega)).1
        subst hspot
        exact ⟨b, o, rfl, fun i => addr_add b o i⟩
      obtain ⟨b, o, rfl, hadd⟩ := hplain
      refine ⟨(List.range len).map fun r => (Z r).take (L r), .inr ⟨b, o, cap, by simp, ?_, by simp; omega, by simpa using hl, fun i hi => ?_⟩⟩
      · intro e
        have := congrArg List.length e
        simp at this; omega
      · simp only [List.length_map, List.length_range] at hi
        obtain ⟨e1, e2, e3, e4, e5, e6, e7⟩ := hcell i (by omega)
        rw [hadd] at e1
        refine ⟨_, e1, ?_⟩
        have hg : ((List.range len).map fun r => (Z r).take (L r)).getD i [] = (Z i).take (L i) := by simp [List.getD, hi]
        rw [hg]
        have hb : Byt ((Z i).take (L i)) := fun x hx => bounds_u8 (e5 x (List.mem_of_mem_take hx))
        refine ⟨hb, ?_⟩
        have hlz : ((Z i).take (L i)).length = L i := by rw [List.length_take]; omega
        cases hA : A i with
        | none =>
          have hC := e6 hA
          have : L i = 0 := by omega
          exact .inl ⟨by rw [this, hC], by rw [this, List.take_zero]⟩
        | some a' =>
          by_cases hL0 : L i = 0
          · exact .inr (.inl ⟨a', C i, by rw [hL0], by rw [hL0, List.take_zero], e3⟩)
          · obtain ⟨_, hc'⟩ := e7 a' hA
            obtain ⟨b', o', rfl, h2⟩ := ints_at (zs := Z i) (fun c hc => hc' c (by omega)) (by omega)
            refine .inr (.inr ⟨b', o', C i, by rw [hlz], fun e => hL0 (by rw [← hlz, e]; rfl), by omega, e3, fun j hj => ?_⟩)
            rw [hlz] at hj
            rw [h2 j (by omega)]
            simp [nth, List.getD, List.getElem?_take_of_lt hj]
end Go.Proofs.YtjdamlmoegippaaDoor.hl
namespace Go.Proofs.YtjdamlmoegippaaDoor.pl
open Go.RowKit
theorem wpList_bs1 {ops : Array Oper} {rest : List Oper} {o : Oper} {a : Act} {w : World} {Q : Exit → Act → World → Prop} (hgd : o.guard = none) (t n : Nat) (x : Operand) (ho : o.op = .buildSlice t n #[(0, x)])
    {u v' : Value} {w' : World} (hx : a.eval x = u) (hr : (Instr.buildSlice t n #[(0, u)]).run Tryd.prog w = .ok v' w') (h : wpList Tryd.prog ops Q rest (a.put o.dst v') w') : wpList Tryd.prog ops Q (o :: rest) a w := by
  refine wpList_plain hgd fun K hK => ?_
  unfold Oper.wp execOp
  simp only [ho, Sem.run_bind, Sem.run_pure, Result.andThen_ok, List.map_toArray, List.map_cons, List.map_nil, hx, hr]
  exact hK _ _ h
theorem wpList_bs0 {ops : Array Oper} {rest : List Oper} {o : Oper} {a : Act} {w : World} {Q : Exit → Act → World → Prop} (hgd : o.guard = none) (t n : Nat) (ho : o.op = .buildSlice t n #[])
    {v' : Value} {w' : World} (hr : (Instr.buildSlice t n #[]).run Tryd.prog w = .ok v' w') (h : wpList Tryd.prog ops Q rest (a.put o.dst v') w') : wpList Tryd.prog ops Q (o :: rest) a w := by
  refine wpList_plain hgd fun K hK => ?_
  unfold Oper.wp execOp
  simp only [ho, Sem.run_bind, Sem.run_pure, Result.andThen_ok, List.map_toArray, List.map_nil, hr]
  exact hK _ _ h
theorem wpList_appT {ops : Array Oper} {rest : List Oper} {o : Oper} {a : Act} {w : World} {Q : Exit → Act → World → Prop} (hgd : o.guard = none) (T : Nat) (s x : Operand)
    (ho : o.op = .call { callee := .builtin .append, args := #[s, x], argTypes := #[T, T] }) (hty : o.type = T) {v u v' : Value} {w' : World} (hs : a.eval s = v) (hx : a.eval x = u)
    (hr : (Builtin.append_ #[T, T] T #[v, u]).run Tryd.prog w = .ok v' w') (h : wpList Tryd.prog ops Q rest (a.put o.dst v') w') : wpList Tryd.prog ops Q (o :: rest) a w := by
  refine wpList_plain hgd fun K hK => ?_
  unfold Oper.wp execOp
  simp only [ho, hty, resolve, invoke, builtin, Sem.run_bind, Sem.run_pure, Result.andThen_ok, List.map_toArray, List.map_cons, List.map_nil, hs, hx, hr]
  exact hK _ _ h
theorem bs37e (w : World) : (Instr.buildSlice 37 0 #[]).run Tryd.prog w = .ok (.slice (some ⟨w.heap.size, 0, none⟩) 0 0) (w.alloc (.cells #[] 5)) := by kernel_rfl
theorem own_empty (w : World) : hl.Own (w.alloc (.cells #[] 5)) w.heap.size (.slice (some ⟨w.heap.size, 0, none⟩) 0 0) [] :=
  ⟨fun _ h => by simp at h, rfl, .inr ⟨w.heap.size, 0, #[], rfl, Nat.le_refl _, heap_alloc_new w _, Nat.le_refl _, by decide, rfl, rfl⟩⟩
theorem sees_one (w : World) (g : Nat) (x : Int) (h0 : 0 ≤ x) (h1 : x ≤ 255) (hg : w.heap[g]? = some (.cells #[.int .u8 x] 5 (0, 0))) : hl.Sees w (.slice (some ⟨g, 0, none⟩) 1 1) [x] :=
  ⟨fun y hy => by obtain rfl := List.mem_singleton.1 hy; exact ⟨h0, h1⟩, .inr (.inr ⟨g, 0, 1, rfl, by simp, Nat.le_refl _, by decide, fun i hi => by
    obtain rfl : i = 0 := by simp at hi; omega
    rw [cell_row hg]; rfl⟩)⟩
theorem own_form {w : World} {base : Nat} {v : Value} {xs : List Int} (h : hl.Own w base v xs) : ∃ x c, v = .slice x xs.length c := by
  obtain ⟨x, c, h, _⟩ := h.sees.form
  exact ⟨x, c, h⟩
/-- Bytes of the caller's own, as many as a sector has. -/
theorem own_sx {w : World} {base : Nat} {v : Value} {xs : List Int} (h : hl.Own w base v xs) (hl : xs.length = 512) : ∃ y, dk.SX w v (dk.tx y) := by
  have hr := dk.Rw.of_own h.2 (fun u hu => by
    obtain ⟨x, _, rfl⟩ := List.mem_map.1 hu
    rfl)
  obtain ⟨y, hy⟩ := dk.tx_onto (xs.map Int.toNat) (by rw [List.length_map, hl]) (fun x hx => by
    obtain ⟨z, hz, rfl⟩ := List.mem_map.1 hx
    have := h.1 z hz
    omega)
  refine ⟨y, ?_⟩
  obtain ⟨_, _, ⟨_, e⟩ | ⟨b, o, cap, cs, e, hg, h1, h2, h3, h4⟩⟩ := hr
  · omega
  · refine ⟨b, o, cap, cs, by rw [dk.tx_len]; rw [hl] at e; exact e, by rw [dk.tx_len]; omega, by unfold maxLen at h3; omega, hg, fun i x hx => ?_⟩
    rw [hy, List.getElem?_map] at hx
    cases hxi : xs[i]? with
    | none => rw [hxi] at hx; cases hx
    | some z =>
      rw [hxi] at hx
      cases hx
      have hb := h.1 z (List.mem_of_getElem? hxi)
      have := h4 i (.int .u8 z) (by rw [List.getElem?_map, hxi]; rfl)
      rw [this, Int.toNat_of_nonneg hb.1]
theorem sees_cell {w : World} {x : Option Addr} {c : Nat} {xs : List Int} (h : hl.Sees w (.slice x xs.length c) xs) (i : Nat) (hi : i < xs.length) : ∃ (b o n : Nat), x = some ⟨b, o, none⟩ ∧ hl.nth xs i = (n : Int) ∧ n < 256 ∧ w.cell? ⟨b, o + i, none⟩ = some (.int .u8 (n : Int)) := by
  have hb : 0 ≤ hl.nth xs i ∧ hl.nth xs i ≤ 255 := by
    have := h.1 (hl.nth xs i) (by unfold hl.nth; rw [List.getD_eq_getElem?_getD, List.getElem?_eq_getElem hi, Option.getD_some]; exact List.getElem_mem hi)
    omega
  obtain ⟨n, hn⟩ : ∃ n : Nat, hl.nth xs i = n := ⟨(hl.nth xs i).toNat, by omega⟩
  rcases h.2 with ⟨_, e⟩ | ⟨a, cap, _, e, _⟩ | ⟨b, o, cap, e, _, _, _, hc⟩
  · rw [e] at hi; simp at hi
  · rw [e] at hi; simp at hi
  · simp only [Value.slice.injEq] at e
    exact ⟨b, o, n, e.1, hn, by omega, by rw [hc i hi, hn]⟩
theorem seesM_form {w : World} {v : Value} {xss : List (List Int)} (h : hl.SeesM w v xss) : ∃ x c, v = .slice x xss.length c ∧ ∀ i, i < xss.length → ∃ (b o : Nat) (x' : Option Addr) (c' : Nat), x = some ⟨b, o, none⟩ ∧ b < w.heap.size ∧ w.cell? ⟨b, o + i, none⟩ = some (.slice x' (xss.getD i []).length c') ∧ hl.Sees w (.slice x' (xss.getD i []).length c') (xss.getD i []) := by
  rcases h with ⟨x, cap, rfl, rfl⟩ | ⟨b, o, cap, rfl, _, _, _, h2⟩
  · exact ⟨x, cap, rfl, fun i hi => by simp at hi⟩
  · refine ⟨_, _, rfl, fun i hi => ?_⟩
    obtain ⟨u, hu, hs⟩ := h2 i hi
    obtain ⟨x', c', rfl, _⟩ := hs.form
    exact ⟨b, o, x', c', rfl, World.block_lt_of_cell? w _ hu, hu, hs⟩
set_option maxRecDepth 100000 in
theorem sK_ok : ∀ k, k < 12 → (ex.sTak 20 (sK k) 3).1 = 0 := by decide +kernel
end Go.Proofs.YtjdamlmoegippaaDoor.pl
