/-
  What the row's premise on the two tables gives the walks; the step from a walk to a row, for every law of this seat. Condition: the arguments' types can be read.
-/
import Derived.Test.YtjdamlmoegippaaDoorRows
import Derived.Test.YtjdamlmoegippaaDoorTie
import Derived.Test.YtjdamlmoegippaaDoorCards
import Derived.Test.YtjdamlmoegippaaDoorHlSl
import Derived.ProofKit
import Derived.LaidMore
import Derived.OpenShut
import Derived.Stop.Joined
import Derived.SevenTiedAt
namespace Go.Proofs.YtjdamlmoegippaaDoor.hl
open Go.ChangeShapes Go.WideShapes Go.ChangeAt Go.RowKit

theorem own : ownKnob Tryd.prog.godebug = none := by kernel_rfl
theorem laid : laidOutB Tryd.prog = true := by kernel_rfl
theorem gSq : Tryd.prog.globalNamed "casemate/sha.squareRoots" = some 0 := by kernel_rfl
theorem gCb : Tryd.prog.globalNamed "casemate/sha.cubeRoots" = some 1 := by kernel_rfl
theorem tSq : (Tryd.prog.globals[0]?).map (·.type) = some 127 := by kernel_rfl
theorem tCb : (Tryd.prog.globals[1]?).map (·.type) = some 133 := by kernel_rfl
theorem cells39 : Tryd.prog.cellsOf 22 = 1 := by kernel_rfl
def laid2 : List (String × DataW Unit) := [("casemate/sha.squareRoots", Rows.laid_casemate_sha_squareRoots), ("casemate/sha.cubeRoots", Rows.laid_casemate_sha_cubeRoots)]
theorem sq_datum {H : Type} : (Rows.laid_casemate_sha_squareRoots : DataW H) = .agg (SQ.map fun n => .lit (.int .u32 n)) := rfl
theorem cb_datum {H : Type} : (Rows.laid_casemate_sha_cubeRoots : DataW H) = .agg (KK.map fun n => .lit (.int .u32 n)) := rfl
/-- An array of numbers of 32 digits that reads as a datum: its cells. -/
theorem row_cells {H : Type} {enc : TypeId × Value → H} {W : World} {base : Nat} {spare : Nat → Bool} {held : Bool} {fuel n : Nat} {t : TypeId} {cs : List Value} {L : List Int} {ps : List MemPlace} (ht : Tryd.prog.underlying t = some (.array n 22)) (hL : L.length = n) (hc : Tryd.prog.cellsOf t = n)
    (h : DataW.trod enc Tryd.prog W base spare held fuel t cs = some (.agg (L.map fun n => .lit (.int .u32 n)), ps)) : ∀ j, j < n → cs[j]? = some (.int .u32 (nth L j)) := by
  obtain ⟨xs, m, rfl, hx, hlen, hn, hel⟩ := DataW.trod_array ht h
  intro j hj
  have h1 := hel j hj
  rw [cells39, Nat.mul_one] at h1
  have hxj : xs[j]? = some xs[j] := List.getElem?_eq_getElem (by omega)
  rw [hxj] at h1
  obtain ⟨k, e1, e2, _⟩ := DataW.trod_int Tryd.underlying22 h1
  simp only [Prod.mk.injEq, DataW.agg.injEq] at hx
  have hm : (xs.map (·.1))[j]? = some (.lit (.int .u32 (nth L j))) := by
    rw [← hx.1]
    simp [nth, List.getD, show j < L.length by omega]
  rw [List.getElem?_map, hxj, e2] at hm
  simp only [Option.map_some, Option.some.injEq, DataW.lit.injEq, Lit.int.injEq, true_and] at hm
  subst hm
  have hjc : j < cs.length := by omega
  have h2 : ((cs.drop j).take 1)[0]? = some (.int .u32 (nth L j)) := by rw [e1]; rfl
  rw [List.getElem?_take_of_lt (by omega), List.getElem?_drop, Nat.add_zero] at h2
  exact h2
theorem of_laid {W : World} (h : laidMetH Tryd.prog laid2 W) : Glob W := by
  rw [MakeChecks.laidMetH_plain _ _ _ (by kernel_rfl)] at h
  obtain ⟨ps, ⟨g0, t0, cs0, f0, p0, q0, hg0, ht0, hv0, hd0, ⟨g1, t1, cs1, f1, p1, q1, hg1, ht1, hv1, hd1, _, _⟩, _⟩, _, _⟩ := h
  obtain rfl := Option.some.inj (gSq.symm.trans hg0)
  obtain rfl := Option.some.inj (gCb.symm.trans hg1)
  obtain rfl := Option.some.inj (tSq.symm.trans ht0)
  obtain rfl := Option.some.inj (tCb.symm.trans ht1)
  rw [sq_datum] at hd0
  rw [cb_datum] at hd1
  refine ⟨fun j hj => ?_, fun j hj => ?_⟩
  · rw [World.var?_cell hg0 hv0 j]
    have := row_cells Tryd.underlying127 rfl (by kernel_rfl) hd0 j hj
    simpa using this
  · rw [World.var?_cell hg1 hv1 j]
    have := row_cells Tryd.underlying133 rfl (by kernel_rfl) hd1 j hj
    simpa using this
/-- The door's own heap meets the premise: three closed facts. -/
theorem door_met (os : Os) (args : Array Value) : laidMetH Tryd.prog laid2 ((World.doorLaid Tryd.prog 400 os).forCall (fun _ _ => 0) ⟨#[], args, []⟩).memory :=
  laidMetH_of_parts3 (fuel := 8) (laidMet_of_run' 8 (by kernel_rfl) (by kernel_rfl)) (by kernel_rfl) (by kernel_rfl)
theorem all_stay {H : Type} {enc : TypeId × Value → H} {P : Program} (hl : laidOutB P = true) {W W' : World} (hb : Below W.heap.size W W') (ts : List TypeId) :
    ∀ (vs : List Value) (ds : List (DataW H)) (ps : List MemPlace), ts.all (fun t => P.readableRec t && decide (t < P.types.size)) = true → (∀ p ∈ ps, p.block < W.heap.size) →
      DataW.TrodAll enc P W 0 (fun _ => true) true ts vs ds ps → DataW.TrodAll enc P W' 0 (fun b => decide (b < W.heap.size)) true ts vs ds ps := by
  induction ts with
  | nil =>
    intro vs ds ps _ _ h
    cases vs <;> cases ds <;> simp_all [DataW.TrodAll]
  | cons t ts ih =>
    intro vs ds ps hr hp h
    cases vs with
    | nil => exact (h : False).elim
    | cons v vs =>
      cases ds with
      | nil => exact (h : False).elim
      | cons d ds =>
        obtain ⟨p, q, h1, h2, e⟩ := h
        subst e
        rw [List.all_cons, Bool.and_eq_true, Bool.and_eq_true] at hr
        exact ⟨p, q, Below.trod hl hr.1.1 (of_decide_eq_true hr.1.2) h1 hb (fun x hx => hp x (List.mem_append_left _ hx)),
          ih vs ds q hr.2 (fun x hx => hp x (List.mem_append_right _ hx)) h2, rfl⟩
theorem law_post {H : Type} {enc : TypeId × Value → H} {f : Func} {s : ChangeSpec} {W W' : World} {args : Array Value} {ds gs : List (DataW H)} {before : List MemPlace}
    (hW : DataW.Whole enc Tryd.prog f.params.toList s.vars false W args.toList ds gs before) (hv : s.vars = []) (hs : s.fn H (ds ++ gs) = { results := [.lit (.bool true)], args := ds })
    (hr : f.resultTypes = #[4]) (hp : f.params.toList.all (fun t => Tryd.prog.readableRec t && decide (t < Tryd.prog.types.size)) = true) (hb : Below W.heap.size W W') :
    s.post enc Tryd.prog f false true false false W args (.bool true) W' := by
  have hlt : ∀ p ∈ before, p.block < W.heap.size := fun p hp => hW.lt p hp
  have hW' := hW
  obtain ⟨p, q, hA, hV, he, _, _⟩ := hW'
  rw [hv] at hV
  obtain ⟨rfl, rfl⟩ := trodVars_none hV
  subst he
  refine ⟨ds, [], _, [], p, [], hW, ?_, ?_, ?_, ?_, fun h => by cases h⟩
  · rw [hs, hr]
    exact trodAll_mk1 (shut_bool Tryd.underlying4 _)
  · rw [hs]
    exact all_stay laid hb _ _ _ _ hp (fun x hx => hlt x (List.mem_append_left _ hx)) hA
  · rw [hs, hv]
    rfl
  · exact hb.frame _
end Go.Proofs.YtjdamlmoegippaaDoor.hl
