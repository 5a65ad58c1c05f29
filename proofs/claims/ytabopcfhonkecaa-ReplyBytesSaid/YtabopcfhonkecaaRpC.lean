/-
  Replies as data; contracts of mayBe, Same and Fail. Condition: the data read as bytes.
-/
import Derived.Test.YtabopcfhonkecaaRpB
import Derived.Deep.DeepCutAuto
import Derived.WalkMore
import Derived.Lib.OthersKept
namespace Go.Proofs.Ytabopcfhonkecaa
open Go.RowKit
/-- A reply: its error, its number, its data. -/
structure Ry where
  e : Int
  n : Int
  d : List Int
def rc (p : Ry) (dv : Value) : List Value := [.int .i64 p.e, .int .i64 p.n, dv]
def i64 (x : Int) : Prop := -9223372036854775808 ≤ x ∧ x ≤ 9223372036854775807
def RY (p : Ry) : Prop := i64 p.e ∧ i64 p.n
def mayB (p : Ry) : Bool := decide (0 ≤ p.e) && (decide (p.e ≤ 65535) && (decide (0 ≤ p.n) && (decide (p.n ≤ 2147483647) && decide (p.d.length ≤ 4096))))
def sameB (p q : Ry) : Bool := decide (p.e = q.e) && (decide (p.n = q.n) && decide (p.d = q.d))
theorem i25 (p : Ry) (dv : Value) : (Try.prog.info? 25).map (·.size) = some (rc p dv).toArray.size := by
  rw [List.size_toArray, show (rc p dv).length = 3 from rfl]
  kernel_rfl
theorem i30 (p : Ry) (dv : Value) : (Try.prog.info? 30).map (·.size) = some (rc p dv).toArray.size := by
  rw [List.size_toArray, show (rc p dv).length = 3 from rfl]
  kernel_rfl
theorem rc_one {p : Ry} {dv : Value} (h : dv.oneCell' = true) : (rc p dv).toArray.all (·.oneCell') = true := by
  simp only [rc, List.all_toArray, List.all_cons, List.all_nil, h]
  simp [Value.oneCell']
theorem Sees.one {w : World} {v : Value} {xs : List Int} (h : Sees w v xs) : v.oneCell' = true := by
  obtain ⟨x, c, rfl, _⟩ := h.form
  rfl
theorem z25 (w : World) : (zeroValue 25).run Try.prog w = .ok (.agg (rc ⟨0, 0, []⟩ (.slice none 0 0)).toArray) w := by kernel_rfl
theorem z30 (w : World) : (zeroValue 30).run Try.prog w = .ok (.agg (rc ⟨0, 0, []⟩ (.slice none 0 0)).toArray) w := by kernel_rfl
theorem b25 (k : Int) (w : World) : (Instr.build 25 #[(0, .int .i64 k)]).run Try.prog w = .ok (.agg (rc ⟨k, 0, []⟩ (.slice none 0 0)).toArray) w := by kernel_rfl
/-- A row that has been copied into a box: what its cells are. -/
theorem row_rc {W : World} {g : Nat} {T : TypeId} {p : Ry} {dv : Value} (h : W.heap[g]? = some (.cells (rc p dv).toArray T (0, 0))) :
    W.cell? ⟨g, 0, none⟩ = some (.int .i64 p.e) ∧ W.cell? ⟨g, 1, none⟩ = some (.int .i64 p.n) ∧ W.cell? ⟨g, 2, none⟩ = some dv :=
  ⟨by rw [cell_row h]; rfl, by rw [cell_row h]; rfl, by rw [cell_row h]; rfl⟩
theorem wpList_alloc_z {ops : Array Oper} {rest : List Oper} {o : Oper} {a : Act} {w : World} {Q : Exit → Act → World → Prop} (hgd : o.guard = none) (t : TypeId) (ho : o.op = .alloc t) {cs : Array Value} (hz : (zeroValue t).run Try.prog w = .ok (.agg cs) w)
    (h : wpList Try.prog ops Q rest (a.put o.dst (.pointer (some ⟨w.heap.size, 0, none⟩))) (w.alloc (.cells cs t))) : wpList Try.prog ops Q (o :: rest) a w := by
  refine wpList_plain hgd fun K hK => ?_
  unfold Oper.wp
  simp [execOp, ho, Instr.alloc, hz, Result.andThen, Oper.upon]
  exact hK _ _ h
theorem results_cell1 {P : Program} {fn : Func} {p : Tmp} {ty : TypeId} (h : fn.results = #[.cell p ty]) (tmps : Array Value) (w : World) (g : Nat) (t : TypeId) (cs : Array Value) (fr : Nat × Nat) (d : TypeDesc)
    (hp : tmps.getD p undef = .pointer (some ⟨g, 0, none⟩)) (hg : w.heap[g]? = some (.cells cs t fr))
    (hu : P.underlying ty = some d) (hd : (match d with | .struct _ | .array _ _ => true | _ => false) = true) (hi : (P.info? ty).map (·.size) = some cs.size) :
    (results fn tmps).run P w = .ok (.agg cs) w := by
  have hp' : tmps[p]?.getD undef = .pointer (some ⟨g, 0, none⟩) := by simpa using hp
  simp [results, h, hp', asAddr, run_loadVar_row w g t ty cs fr d hg hu hd hi]
set_option maxRecDepth 100000 in
set_option maxHeartbeats 2000000 in
theorem mayC {p : Ry} (dv : Value) (w : World) (hd : Sees w dv p.d) : Calls Try.prog 19 #[.agg (rc p dv).toArray] w fun e w' => e = .returned (.bool (mayB p)) ∧ Below w.heap.size w w' := by
  obtain ⟨x, cp, rfl, h63⟩ := hd.form
  obtain ⟨C, hC⟩ : ∃ C, C = (rc p (.slice x p.d.length cp)).toArray := ⟨_, rfl⟩
  rw [← hC]
  obtain ⟨w1, hw1⟩ : ∃ w1, w1 = w.alloc (.cells C 25) := ⟨_, rfl⟩
  have b1 : Below w.heap.size w w1 := by rw [hw1]; exact (Below.refl _ _).alloc (Nat.le_refl _) _
  have g1 : w1.heap[w.heap.size]? = some (.cells C 25 (0, 0)) := by rw [hw1]; exact heap_alloc_new w _
  rw [hC] at g1
  obtain ⟨c0, c1, c2⟩ := row_rc g1
  have HW1 := Lib.hid hw1
  have B1 := Lib.hid b1
  clear hw1 b1 g1 hd hC
  unfold mayB
  generalize p.d.length = l at *
  generalize p.e = e at *
  generalize p.n = n at *
  by_cases h0 : 0 ≤ e
  · rw [decide_eq_true h0, Bool.true_and]
    by_cases h1 : e ≤ 65535
    · rw [decide_eq_true h1, Bool.true_and]
      by_cases h2 : 0 ≤ n
      · rw [decide_eq_true h2, Bool.true_and]
        by_cases h3 : n ≤ 2147483647
        · rw [decide_eq_true h3, Bool.true_and]
          by_cases h4 : l ≤ 4096
          · rw [decide_eq_true h4]
            have k9 : (l : Int) ≤ 4096 := by omega
            go_enter Try.func19, Try.ntmps19
            go_upto_region 1 with (fail)
            rw [← HW1.out]
            go_wp2
            go_ret
            exact ⟨rfl, B1.out⟩
          · rw [decide_eq_false h4]
            have k4 : decide ((l : Int) ≤ 4096) = false := decide_eq_false (by omega)
            go_enter Try.func19, Try.ntmps19
            go_upto_region 1 with (fail)
            rw [← HW1.out]
            go_wp2
            go_ret
            exact ⟨rfl, B1.out⟩
        · rw [decide_eq_false h3, Bool.false_and]
          have k3 : 2147483647 < n := by omega
          go_enter Try.func19, Try.ntmps19
          go_upto_region 1 with (fail)
          rw [← HW1.out]
          go_wp2
          go_ret
          exact ⟨rfl, B1.out⟩
      · rw [decide_eq_false h2, Bool.false_and]
        have k2 : n < 0 := by omega
        go_enter Try.func19, Try.ntmps19
        go_upto_region 1 with (fail)
        rw [← HW1.out]
        go_wp2
        go_ret
        exact ⟨rfl, B1.out⟩
    · rw [decide_eq_false h1, Bool.false_and]
      have k1 : 65535 < e := by omega
      go_enter Try.func19, Try.ntmps19
      go_upto_region 1 with (fail)
      rw [← HW1.out]
      go_wp2
      go_ret
      exact ⟨rfl, B1.out⟩
  · rw [decide_eq_false h0, Bool.false_and]
    have k0 : e < 0 := by omega
    go_enter Try.func19, Try.ntmps19
    go_upto_region 1 with (fail)
    rw [← HW1.out]
    go_wp2
    go_ret
    exact ⟨rfl, B1.out⟩
set_option maxRecDepth 100000 in
set_option maxHeartbeats 2000000 in
theorem sameC {p q : Ry} (dv du : Value) (w : World) (hd : Sees w dv p.d) (he : Sees w du q.d) : Calls Try.prog 13 #[.agg (rc p dv).toArray, .agg (rc q du).toArray] w fun e w' => e = .returned (.bool (sameB p q)) ∧ Below w.heap.size w w' := by
  obtain ⟨x1, cp1, rfl, _⟩ := hd.form
  obtain ⟨x2, cp2, rfl, _⟩ := he.form
  obtain ⟨C, hC⟩ : ∃ C, C = (rc p (.slice x1 p.d.length cp1)).toArray := ⟨_, rfl⟩
  obtain ⟨D, hD⟩ : ∃ D, D = (rc q (.slice x2 q.d.length cp2)).toArray := ⟨_, rfl⟩
  rw [← hC, ← hD]
  obtain ⟨w1, hw1⟩ : ∃ w1, w1 = w.alloc (.cells C 25) := ⟨_, rfl⟩
  obtain ⟨w2, hw2⟩ : ∃ w2, w2 = w1.alloc (.cells D 25) := ⟨_, rfl⟩
  have z1 : w1.heap.size = w.heap.size + 1 := by rw [hw1]; simp
  have b1 : Below w.heap.size w w1 := by rw [hw1]; exact (Below.refl _ _).alloc (Nat.le_refl _) _
  have b2 : Below w1.heap.size w1 w2 := by rw [hw2]; exact (Below.refl _ _).alloc (Nat.le_refl _) _
  have g1 : w2.heap[w.heap.size]? = some (.cells C 25 (0, 0)) := by rw [b2.block _ (by omega), hw1]; exact heap_alloc_new w _
  have g2 : w2.heap[w.heap.size + 1]? = some (.cells D 25 (0, 0)) := by rw [hw2, ← z1]; exact heap_alloc_new w1 _
  have bb : Below w.heap.size w w2 := b1.trans (b2.mono (by omega))
  rw [hC] at g1
  rw [hD] at g2
  obtain ⟨c0, c1, c2⟩ := row_rc g1
  obtain ⟨d0, d1, d2⟩ := row_rc g2
  have HW1 := Lib.hid hw1
  have HW2 := Lib.hid hw2
  have BE := Lib.hid bb
  have SS : Hid (Calls Try.prog 30 #[.slice x1 p.d.length cp1, .slice x2 q.d.length cp2] w2 fun e w' => e = .returned (.bool (decide (p.d = q.d))) ∧ w2 = w') := os.same _ _ _ _ w2 (hd.below bb) (he.below bb)
  clear hw1 hw2 z1 b1 b2 g1 g2 bb hC hD hd he
  unfold sameB
  by_cases h1 : p.e = q.e
  · rw [decide_eq_true h1, Bool.true_and]
    have k1 : (p.e == q.e) = true := beq_iff_eq.2 h1
    by_cases h2 : p.n = q.n
    · rw [decide_eq_true h2, Bool.true_and]
      have k2 : (p.n == q.n) = true := beq_iff_eq.2 h2
      clear h1 h2
      generalize p.d.length = l1 at *
      generalize q.d.length = l2 at *
      generalize p.e = e1 at *
      generalize q.e = e2 at *
      generalize p.n = n1 at *
      generalize q.n = n2 at *
      generalize decide (p.d = q.d) = rb at *
      go_enter Try.func13, Try.ntmps13
      go_upto_region 1 with (fail)
      rw [← HW1.out, ← HW2.out]
      go_wp2_with fail
      refine SS.out.mono ?_
      rintro e w' ⟨rfl, rfl⟩
      go_wp2
      go_ret
      exact ⟨rfl, BE.out⟩
    · rw [decide_eq_false h2, Bool.false_and]
      have k2 : (p.n == q.n) = false := beq_eq_false_iff_ne.2 h2
      clear h1 h2 SS
      generalize p.d.length = l1 at *
      generalize q.d.length = l2 at *
      generalize p.e = e1 at *
      generalize q.e = e2 at *
      generalize p.n = n1 at *
      generalize q.n = n2 at *
      go_enter Try.func13, Try.ntmps13
      go_upto_region 1 with (fail)
      rw [← HW1.out, ← HW2.out]
      go_wp2
      go_ret
      exact ⟨rfl, BE.out⟩
  · rw [decide_eq_false h1, Bool.false_and]
    have k1 : (p.e == q.e) = false := beq_eq_false_iff_ne.2 h1
    clear h1 SS
    generalize p.d.length = l1 at *
    generalize q.d.length = l2 at *
    generalize p.e = e1 at *
    generalize q.e = e2 at *
    go_enter Try.func13, Try.ntmps13
    go_upto_region 1 with (fail)
    rw [← HW1.out, ← HW2.out]
    go_wp2
    go_ret
    exact ⟨rfl, BE.out⟩
set_option maxRecDepth 100000 in
set_option maxHeartbeats 2000000 in
theorem failC (k : Int) (w : World) : Calls Try.prog 14 #[.int .i64 k] w fun e w' => e = .returned (.agg (rc ⟨k, 0, []⟩ (.slice none 0 0)).toArray) ∧ Below w.heap.size w w' := by
  obtain ⟨Z, hZ⟩ : ∃ Z, Z = (rc ⟨0, 0, []⟩ (.slice none 0 0)).toArray := ⟨_, rfl⟩
  obtain ⟨C, hC⟩ : ∃ C, C = (rc ⟨k, 0, []⟩ (.slice none 0 0)).toArray := ⟨_, rfl⟩
  have z := z25
  have bk := b25 k
  have ic := i25 ⟨k, 0, []⟩ (.slice none 0 0)
  have iz := i25 ⟨0, 0, []⟩ (.slice none 0 0)
  have oc : (rc ⟨k, 0, []⟩ (.slice none 0 0)).toArray.all (·.oneCell') = true := rc_one rfl
  rw [← hZ] at z iz
  rw [← hC] at bk ic oc ⊢
  have HZ := Lib.hid z
  have HBK := Lib.hid bk
  have IC := Lib.hid ic
  have OC := Lib.hid oc
  have IZC : Hid (Z.size = C.size) := Option.some.inj (iz.symm.trans ic)
  obtain ⟨w1, hw1⟩ : ∃ w1, w1 = w.alloc (.cells Z 25) := ⟨_, rfl⟩
  have b1 : Below w.heap.size w w1 := by rw [hw1]; exact (Below.refl _ _).alloc (Nat.le_refl _) _
  have g1 : w1.heap[w.heap.size]? = some (.cells Z 25 (0, 0)) := by rw [hw1]; exact heap_alloc_new w _
  have HW1 := Lib.hid hw1
  have B1 := Lib.hid b1
  have G1 := Lib.hid g1
  clear hw1 b1 g1 z bk ic iz oc hZ hC
  go_enter Try.func14, Try.ntmps14
  go_upto_region 1 with (first | (refine wpList_alloc_z rfl 25 rfl (HZ.out w) ?_; rw [← HW1.out]))
  go_wp2_with (first | (refine wpList_build_run (u := .int .i64 k) rfl 25 0 (.tmp 3) rfl rfl (HBK.out w1) ?_; refine wpList_store_row rfl 25 (.tmp 2) (.tmp 4) rfl w.heap.size C rfl rfl 25 Z G1.out IC.out IZC.out OC.out ?_))
  have YZ : Hid (_ = some (Obj.cells C 25 (0, 0))) := setRow_heap _ w.heap.size Z C _ _ G1.out
  exact bodyPost_ret (v := .agg C) (results_cell1 rfl _ _ w.heap.size 25 C (0, 0) _ rfl YZ.out Try.underlying25 rfl IC.out) rfl ⟨rfl, B1.out.trans (below_row _ _ (Nat.le_refl _))⟩
end Go.Proofs.Ytabopcfhonkecaa
