/-
  Nodes that a call makes; contract of node.without. Condition: the node reads as one, of no more than three hundred of each.
-/
import Derived.Test.YtnifaldgofmciaaNeA
import Derived.Test.YtnifaldgofmciaaNdW
import Derived.Deep.RegionHeld3
namespace Go.Proofs.Ytnifaldgofmciaa
open Go.RowKit
theorem below_row {B g : Nat} (w : World) (cs : Array Value) (hg : B ≤ g) : Below B w (w.setRow g cs) :=
  ⟨rfl, rfl, rfl, by simp, fun k hk => setRow_other w g k cs (by omega)⟩
theorem step_store_row {ops : Array Oper} {o : Oper} {a : Act} {w : World} {K : Act → World → Prop} {Q : Exit → Act → World → Prop} {E : Prop} (hgd : o.guard = none) (ty : TypeId) (x y : Operand) (ho : o.op = .store ty x y)
    (g : Nat) (cells : Array Value) (hx : a.eval x = .pointer (some ⟨g, 0, none⟩)) (hy : a.eval y = .agg cells) (t : TypeId) (old : Array Value) (hg : w.heap[g]? = some (.cells old t (0, 0))) (hi : (Try.prog.info? ty).map (·.size) = some cells.size)
    (hold : old.size = cells.size) (h1 : cells.all (·.oneCell') = true) (hK : K (a.put o.dst undef) (w.setRow g cells)) : if Region.wanted o (yielded ops a.tmps) = true then Oper.wp Try.prog o a w K Q else E := by
  have hw : Region.wanted o (yielded ops a.tmps) = true := by simp [Region.wanted, hgd]
  rw [if_pos hw]
  exact wp_store_row ty x y ho g cells hx hy t old hg hi hold h1 hK
/-- The cells of a node whose lists lie in no block below g. -/
def okA (g : Nat) (A : Array Value) : Prop := ∃ b x1 n1 c1 x2 n2 c2 x3 n3 c3, A = #[.bool b, .slice x1 n1 c1, .slice x2 n2 c2, .slice x3 n3 c3] ∧ (n1 ≤ c1 ∧ n2 ≤ c2 ∧ n3 ≤ c3) ∧ fresh g (.slice x1 n1 c1) ∧ fresh g (.slice x2 n2 c2) ∧ fresh g (.slice x3 n3 c3)
section
variable {g : Nat} {A : Array Value}
theorem okA.info (h : okA g A) : (Try.prog.info? 26).map (·.size) = some A.size := by
  obtain ⟨b, x1, n1, c1, x2, n2, c2, x3, n3, c3, rfl, _⟩ := h
  exact size26' _ _ _ _
theorem okA.four (h : okA g A) : A.size = 4 := by
  obtain ⟨b, x1, n1, c1, x2, n2, c2, x3, n3, c3, rfl, _⟩ := h
  rfl
theorem okA.one (h : okA g A) : A.all (·.oneCell') = true := by
  obtain ⟨b, x1, n1, c1, x2, n2, c2, x3, n3, c3, rfl, _⟩ := h
  simp [Value.oneCell']
theorem okA.le {k : Nat} (h : okA g A) (hk : k ≤ g) : okA k A := by
  obtain ⟨b, x1, n1, c1, x2, n2, c2, x3, n3, c3, rfl, h1, h2, h3, h4⟩ := h
  exact ⟨b, x1, n1, c1, x2, n2, c2, x3, n3, c3, rfl, h1, fresh_le h2 hk, fresh_le h3 hk, fresh_le h4 hk⟩
end
theorem range_other {w : World} {g b o : Nat} {cs : Array Value} {l : List Value} (h : w.rangeAt b o l) (hb : b ≠ g) : (w.setRow g cs).rangeAt b o l := fun j v hj => by
  have e := setRow_other w g b cs hb
  have := h j v hj
  simp only [World.cell?, e] at this ⊢
  exact this
theorem ES.setRow {α : Type} {f : α → List Value} {e : Nat} {w : World} {v : Value} {xs : List α} {g k : Nat} {cs : Array Value} (h : ES f e w v xs) (hf : fresh g v) (hk : k < g) : ES f e (w.setRow k cs) v xs := by
  obtain ⟨h1, h2, x, c, h3, h4⟩ := h
  refine ⟨h1, h2, x, c, h3, fun i y hi => ?_⟩
  obtain ⟨b, o, e1, e2, e3⟩ := h4 i y hi
  refine ⟨b, o, e1, by simpa using e2, range_other e3 ?_⟩
  have := hf b (by rw [h3, e1]; rfl)
  omega
theorem ND.setRow {w : World} {A : Array Value} {n : NV} {g k : Nat} {cs : Array Value} (h : ND w (.agg A) n) (ok : okA g A) (hk : k < g) : ND (w.setRow k cs) (.agg A) n := by
  obtain ⟨K, V, Q, e, h1, h2, h3, h4, h5⟩ := h
  obtain ⟨b, x1, n1, c1, x2, n2, c2, x3, n3, c3, rfl, _, f1, f2, f3⟩ := ok
  simp only [Value.agg.injEq, Array.mk.injEq, List.cons.injEq, Value.bool.injEq, and_true] at e
  obtain ⟨rfl, rfl, rfl, rfl⟩ := e
  exact ⟨_, _, _, rfl, (h1.es.setRow f1 hk).ks h1.1, h2.setRow f2 hk, h3.setRow f3 hk, h4, h5⟩
/-- What a call that makes a node ends as. -/
def NewN (w : World) (n : NV) (e : Ending) (w' : World) : Prop := ∃ A, e = .returned (.agg A) ∧ ND w' (.agg A) n ∧ okA w.heap.size A ∧ Below w.heap.size w w'
/-- Without what stands from a on ahead of b. -/
def cutN (n : NV) (a b : Nat) : NV := ⟨n.leaf, n.ks.take a ++ [] ++ n.ks.drop b, n.vs.take a ++ [] ++ n.vs.drop b, n.qs.take a ++ [] ++ n.qs.drop b⟩
def small (n : NV) : Prop := n.ks.length ≤ 300 ∧ n.vs.length ≤ 300 ∧ n.qs.length ≤ 300
theorem mem_cut {α : Type} {l : List α} {a b : Nat} {x : α} (h : x ∈ l.take a ++ [] ++ l.drop b) : x ∈ l := by
  simp only [List.append_nil, List.mem_append] at h
  rcases h with h | h
  · exact List.mem_of_mem_take h
  · exact List.mem_of_mem_drop h
theorem b26f (b : Bool) (x1 x2 x3 : Option Addr) (n1 n2 n3 c1 c2 c3 : Nat) (w : World) : (Instr.build 26 #[(0, .bool b), (1, .slice x1 n1 c1), (2, .slice x2 n2 c2), (3, .slice x3 n3 c3)]).run Try.prog w = .ok (.agg #[.bool b, .slice x1 n1 c1, .slice x2 n2 c2, .slice x3 n3 c3]) w := by kernel_rfl
set_option maxRecDepth 100000 in
set_option maxHeartbeats 8000000 in
theorem without (A : Array Value) (n : NV) (a b : Nat) (w : World) (hv : ND w (.agg A) n) (hA : okA 0 A) (hs : small n) : Calls Try.prog 38 #[.agg A, .int .i64 (a : Int), .int .i64 (b : Int)] w (NewN w (cutN n a b)) := by
  have hz := z26
  obtain ⟨Z, hZ⟩ : ∃ Z : Array Value, Z = #[.bool false, .slice none 0 0, .slice none 0 0, .slice none 0 0] := ⟨_, rfl⟩
  rw [← hZ] at hz
  have Z4 : Hid (Z.size = 4) := by show _ = _; rw [hZ]; rfl
  clear hZ
  have IA := Lib.hid hA.info
  have OA := Lib.hid hA.one
  obtain ⟨K, V, Q, e, h1, h2, h3, h4, h5⟩ := hv
  obtain ⟨lf, x1, n1, c1, x2, n2, c2, x3, n3, c3, hAe, ⟨m1, m2, m3⟩, f1, f2, f3⟩ := hA
  rw [hAe] at e
  simp only [Value.agg.injEq, Array.mk.injEq, List.cons.injEq, Value.bool.injEq, and_true] at e
  obtain ⟨hlf, rfl, rfl, rfl⟩ := e
  obtain ⟨s1, s2, s3⟩ := hs
  have A0 : Hid (A[0]? = some (.bool lf)) := by show _ = _; rw [hAe]; rfl
  have A1 : Hid (A[1]? = some (.slice x1 n1 c1)) := by show _ = _; rw [hAe]; rfl
  have A2 : Hid (A[2]? = some (.slice x2 n2 c2)) := by show _ = _; rw [hAe]; rfl
  have A3 : Hid (A[3]? = some (.slice x3 n3 c3)) := by show _ = _; rw [hAe]; rfl
  clear hAe f1 f2 f3
  have KC : Hid (∀ W, ES key1 1 W (.slice x1 n1 c1) n.ks → Calls Try.prog 42 #[.slice x1 n1 c1, .int .i64 (a : Int), .int .i64 (b : Int), .slice none 0 0] W (ConcP key1 1 W (cutN n a b).ks)) := fun W h => splK n.ks [] a b x1 n1 c1 none 0 0 W h m1 (ES.nil 0) s1 (by simp)
  have VC : Hid (∀ W, ES val 44 W (.slice x2 n2 c2) n.vs → Calls Try.prog 43 #[.slice x2 n2 c2, .int .i64 (a : Int), .int .i64 (b : Int), .slice none 0 0] W (ConcP val 44 W (cutN n a b).vs)) := fun W h => splV n.vs [] a b x2 n2 c2 none 0 0 W h m2 (ES.nil 0) s2 (by simp)
  have QC : Hid (∀ W, ES kid 33 W (.slice x3 n3 c3) n.qs → Calls Try.prog 44 #[.slice x3 n3 c3, .int .i64 (a : Int), .int .i64 (b : Int), .slice none 0 0] W (ConcP kid 33 W (cutN n a b).qs)) := fun W h => splQ n.qs [] a b x3 n3 c3 none 0 0 W h m3 (ES.nil 0) s3 (by simp)
  have FIN : Hid (∀ (W : World) (K V Q : Value), ES key1 1 W K (cutN n a b).ks → ES val 44 W V (cutN n a b).vs → ES kid 33 W Q (cutN n a b).qs → ND W (.agg #[.bool lf, K, V, Q]) (cutN n a b)) := fun W K V Q g1 g2 g3 =>
    ⟨K, V, Q, by rw [hlf]; rfl, g1.ks (fun k hk => h1.1 k (mem_cut hk)), g2, g3, fun z hz => h4 z (mem_cut hz), fun p hp => h5 p (mem_cut hp)⟩
  obtain ⟨W1, hW1⟩ : ∃ W1, W1 = (w.alloc (.cells A 26)).alloc (.cells Z 26) := ⟨_, rfl⟩
  have b0 : Below w.heap.size w (w.alloc (.cells A 26)) := (Below.refl _ _).alloc (Nat.le_refl _) _
  have b1 : Below w.heap.size w W1 := by rw [hW1]; exact b0.alloc (by simp) _
  have G0 : Hid (W1.heap[w.heap.size]? = some (.cells A 26 (0, 0))) := by show _ = _; rw [hW1, Below.heap_alloc _ _ _ (by simp)]; exact heap_alloc_new w _
  have G1 : Hid (W1.heap[w.heap.size + 1]? = some (.cells Z 26 (0, 0))) := by
    show _ = _
    rw [hW1]
    have := heap_alloc_new (w.alloc (.cells A 26)) (.cells Z 26)
    simpa using this
  have EK := Lib.hid (h1.es.below b1)
  have EV := Lib.hid (h2.below b1)
  have EQ := Lib.hid (h3.below b1)
  have B1 := Lib.hid b1
  have HW1 := Lib.hid hW1
  clear hW1 b0 b1 h1 h2 h3 h4 h5 m1 m2 m3 s1 s2 s3 hlf
  generalize cutN n a b = R at *
  go_enter Try.func38, Try.ntmps38
  go_wp2_with fail
  rw [← HW1.out]
  clear hz
  refine wp_region_held_drew (S := fun W => Below w.heap.size w W ∧ W.heap[w.heap.size]? = some (.cells A 26 (0, 0))) (by kernel_rfl) (⟨B1.out.drew, G0.out⟩) (fun hS => ?_)
  have hb0 : Below W1.heap.size W1 W1.drew := (Below.refl _ _).drew
  have qEK := EK.out.below hb0
  have qEV := EV.out.below hb0
  have qEQ := EQ.out.below hb0
  have qG1 := (hb0.block _ (blk_lt G1.out)).trans G1.out
  clear hb0 EK EV EQ G1
  generalize W1.drew = Wos at hS qEK qEV qEQ qG1 ⊢
  have EK := Lib.hid qEK
  have EV := Lib.hid qEV
  have EQ := Lib.hid qEQ
  have G1 := Lib.hid qG1
  clear qEK qEV qEQ qG1
  refine' wpAnyH_take (i := 0) ?h1x0o ?hsx0o ?hfx0o ?hrx0o ?hQx0o (Or.inl ⟨?hwx0o, ?hyx0o⟩) hS ?restx0o
  case h1x0o => (simp only [List.getElem?_toArray, List.getElem?_cons_zero]; rfl)
  case hsx0o | hfx0o | hrx0o => kernel_rfl
  case hQx0o => exact fun _ _ _ h => h
  case hwx0o => rfl
  case hyx0o =>
    intro W hW
    go_simp
    try with_reducible rfl
  simp only [Act.put, List.setIfInBounds_toArray, List.set_cons_succ, List.set_cons_zero]
  refine' wpAnyH_take (i := 2) ?h1x2o ?hsx2o ?hfx2o ?hrx2o ?hQx2o (Or.inl ⟨?hwx2o, ?hyx2o⟩) hS ?restx2o
  case h1x2o => (simp only [List.getElem?_toArray, List.getElem?_cons_succ, List.getElem?_cons_zero]; rfl)
  case hsx2o | hfx2o | hrx2o => kernel_rfl
  case hQx2o => exact fun _ _ _ h => h
  case hwx2o => rfl
  case hyx2o =>
    intro W hW
    go_simp
    try with_reducible rfl
  simp only [Act.put, List.setIfInBounds_toArray, List.set_cons_succ, List.set_cons_zero]
  refine' wpAnyH_take (i := 4) ?h1x4o ?hsx4o ?hfx4o ?hrx4o ?hQx4o (Or.inl ⟨?hwx4o, ?hyx4o⟩) hS ?restx4o
  case h1x4o => (simp only [List.getElem?_toArray, List.getElem?_cons_succ, List.getElem?_cons_zero]; rfl)
  case hsx4o | hfx4o | hrx4o => kernel_rfl
  case hQx4o => exact fun _ _ _ h => h
  case hwx4o => rfl
  case hyx4o =>
    intro W hW
    go_simp
    try with_reducible rfl
  simp only [Act.put, List.setIfInBounds_toArray, List.set_cons_succ, List.set_cons_zero]
  refine' wpAnyH_take (i := 5) ?h1x5o ?hsx5o ?hfx5o ?hrx5o ?hQx5o (Or.inl ⟨?hwx5o, ?hyx5o⟩) hS ?restx5o
  case h1x5o => (simp only [List.getElem?_toArray, List.getElem?_cons_succ, List.getElem?_cons_zero]; rfl)
  case hsx5o | hfx5o | hrx5o => kernel_rfl
  case hQx5o => exact fun _ _ _ h => h
  case hwx5o => rfl
  case hyx5o =>
    intro W hW
    go_simp
    try with_reducible rfl
  simp only [Act.put, List.setIfInBounds_toArray, List.set_cons_succ, List.set_cons_zero]
  refine' wpAnyH_take (i := 7) ?h1x7o ?hsx7o ?hfx7o ?hrx7o ?hQx7o (Or.inl ⟨?hwx7o, ?hyx7o⟩) hS ?restx7o
  case h1x7o => (simp only [List.getElem?_toArray, List.getElem?_cons_succ, List.getElem?_cons_zero]; rfl)
  case hsx7o | hfx7o | hrx7o => kernel_rfl
  case hQx7o => exact fun _ _ _ h => h
  case hwx7o => rfl
  case hyx7o =>
    intro W hW
    go_simp
    try with_reducible rfl
  simp only [Act.put, List.setIfInBounds_toArray, List.set_cons_succ, List.set_cons_zero]
  refine' wpAnyH_take (i := 9) ?h1x9o ?hsx9o ?hfx9o ?hrx9o ?hQx9o (Or.inl ⟨?hwx9o, ?hyx9o⟩) hS ?restx9o
  case h1x9o => (simp only [List.getElem?_toArray, List.getElem?_cons_succ, List.getElem?_cons_zero]; rfl)
  case hsx9o | hfx9o | hrx9o => kernel_rfl
  case hQx9o => exact fun _ _ _ h => h
  case hwx9o => rfl
  case hyx9o =>
    intro W hW
    go_simp
    try with_reducible rfl
  simp only [Act.put, List.setIfInBounds_toArray, List.set_cons_succ, List.set_cons_zero]
  refine' wpAnyH_take (i := 10) ?h1x10o ?hsx10o ?hfx10o ?hrx10o ?hQx10o (Or.inl ⟨?hwx10o, ?hyx10o⟩) hS ?restx10o
  case h1x10o => (simp only [List.getElem?_toArray, List.getElem?_cons_succ, List.getElem?_cons_zero]; rfl)
  case hsx10o | hfx10o | hrx10o => kernel_rfl
  case hQx10o => exact fun _ _ _ h => h
  case hwx10o => rfl
  case hyx10o =>
    intro W hW
    go_simp
    try with_reducible rfl
  simp only [Act.put, List.setIfInBounds_toArray, List.set_cons_succ, List.set_cons_zero]
  refine' wpAnyH_take (i := 12) ?h1x12o ?hsx12o ?hfx12o ?hrx12o ?hQx12o (Or.inl ⟨?hwx12o, ?hyx12o⟩) hS ?restx12o
  case h1x12o => (simp only [List.getElem?_toArray, List.getElem?_cons_succ, List.getElem?_cons_zero]; rfl)
  case hsx12o | hfx12o | hrx12o => kernel_rfl
  case hQx12o => exact fun _ _ _ h => h
  case hwx12o => rfl
  case hyx12o =>
    intro W hW
    go_simp
    try with_reducible rfl
  simp only [Act.put, List.setIfInBounds_toArray, List.set_cons_succ, List.set_cons_zero]
  refine' wpAnyH_take (i := 14) ?h1x14o ?hsx14o ?hfx14o ?hrx14o ?hQx14o (Or.inl ⟨?hwx14o, ?hyx14o⟩) hS ?restx14o
  case h1x14o => (simp only [List.getElem?_toArray, List.getElem?_cons_succ, List.getElem?_cons_zero]; rfl)
  case hsx14o | hfx14o | hrx14o => kernel_rfl
  case hQx14o => exact fun _ _ _ h => h
  case hwx14o => rfl
  case hyx14o =>
    intro W hW
    go_simp
    try with_reducible rfl
  simp only [Act.put, List.setIfInBounds_toArray, List.set_cons_succ, List.set_cons_zero]
  refine' wpAnyH_take (i := 15) ?h1x15o ?hsx15o ?hfx15o ?hrx15o ?hQx15o (Or.inl ⟨?hwx15o, ?hyx15o⟩) hS ?restx15o
  case h1x15o => (simp only [List.getElem?_toArray, List.getElem?_cons_succ, List.getElem?_cons_zero]; rfl)
  case hsx15o | hfx15o | hrx15o => kernel_rfl
  case hQx15o => exact fun _ _ _ h => h
  case hwx15o => rfl
  case hyx15o =>
    intro W hW
    go_simp
    try with_reducible rfl
  simp only [Act.put, List.setIfInBounds_toArray, List.set_cons_succ, List.set_cons_zero]
  refine' wpAnyH_take (i := 1) ?h1x1o ?hsx1o ?hfx1o ?hrx1o ?hQx1o (Or.inl ⟨?hwx1o, ?hyx1o⟩) hS ?restx1o
  case h1x1o => (simp only [List.getElem?_toArray, List.getElem?_cons_succ, List.getElem?_cons_zero]; rfl)
  case hsx1o | hfx1o | hrx1o => kernel_rfl
  case hQx1o => exact fun _ _ _ h => h
  case hwx1o => rfl
  case hyx1o =>
    intro W hW
    have cc := (cell_row hW.2 0).trans A0.out
    go_simp
    try with_reducible rfl
  simp only [Act.put, List.setIfInBounds_toArray, List.set_cons_succ, List.set_cons_zero]
  refine' wpAnyH_take (i := 3) ?h1x3o ?hsx3o ?hfx3o ?hrx3o ?hQx3o (Or.inl ⟨?hwx3o, ?hyx3o⟩) hS ?restx3o
  case h1x3o => (simp only [List.getElem?_toArray, List.getElem?_cons_succ, List.getElem?_cons_zero]; rfl)
  case hsx3o | hfx3o | hrx3o => kernel_rfl
  case hQx3o => exact fun _ _ _ h => h
  case hwx3o => rfl
  case hyx3o =>
    intro W hW
    have cc := (cell_row hW.2 1).trans A1.out
    go_simp
    try with_reducible rfl
  simp only [Act.put, List.setIfInBounds_toArray, List.set_cons_succ, List.set_cons_zero]
  refine' wpAnyH_take (i := 8) ?h1x8o ?hsx8o ?hfx8o ?hrx8o ?hQx8o (Or.inl ⟨?hwx8o, ?hyx8o⟩) hS ?restx8o
  case h1x8o => (simp only [List.getElem?_toArray, List.getElem?_cons_succ, List.getElem?_cons_zero]; rfl)
  case hsx8o | hfx8o | hrx8o => kernel_rfl
  case hQx8o => exact fun _ _ _ h => h
  case hwx8o => rfl
  case hyx8o =>
    intro W hW
    have cc := (cell_row hW.2 2).trans A2.out
    go_simp
    try with_reducible rfl
  simp only [Act.put, List.setIfInBounds_toArray, List.set_cons_succ, List.set_cons_zero]
  refine' wpAnyH_take (i := 13) ?h1x13o ?hsx13o ?hfx13o ?hrx13o ?hQx13o (Or.inl ⟨?hwx13o, ?hyx13o⟩) hS ?restx13o
  case h1x13o => (simp only [List.getElem?_toArray, List.getElem?_cons_succ, List.getElem?_cons_zero]; rfl)
  case hsx13o | hfx13o | hrx13o => kernel_rfl
  case hQx13o => exact fun _ _ _ h => h
  case hwx13o => rfl
  case hyx13o =>
    intro W hW
    have cc := (cell_row hW.2 3).trans A3.out
    go_simp
    try with_reducible rfl
  simp only [Act.put, List.setIfInBounds_toArray, List.set_cons_succ, List.set_cons_zero]
  refine wpAnyH_ready (rs := [6]) (by kernel_rfl) (by simp) ?_
  refine' (AllReadyH.cons ?hoc6o (fun K hK => ?stc6o) AllReadyH.nil)
  case hoc6o => (simp only [List.getElem?_toArray, List.getElem?_cons_succ, List.getElem?_cons_zero]; rfl)
  have hg1 := blk_lt G1.out
  go_simp
  refine (KC.out Wos EK.out).mono ?_
  rintro e Wox6 ⟨vK, rfl, hes, ⟨yK, kK, dK, rfl, hle, _⟩, hfr, hb⟩
  have EK := Lib.hid (EK.out.below hb)
  have EV := Lib.hid (EV.out.below hb)
  have EQ := Lib.hid (EQ.out.below hb)
  have G1 := Lib.hid ((hb.block _ (blk_lt G1.out)).trans G1.out)
  have MK := Lib.hid hle
  have FK := Lib.hid (fresh_le hfr hg1)
  have RK := Lib.hid hes
  clear hes hle hfr hg1
  go_wp2_with fail
  refine hK.out _ _ (⟨hS.1.trans (hb.mono hS.1.size), (hb.block _ (blk_lt hS.2)).trans hS.2⟩) (fun hHeld => ?_)
  clear hK K
  try simp only [Act.put, List.setIfInBounds_toArray, List.set_cons_succ, List.set_cons_zero]
  clear hS
  have hS := hHeld
  clear hHeld
  clear hb
  refine wpAnyH_ready (rs := [11]) (by kernel_rfl) (by simp) ?_
  refine' (AllReadyH.cons ?hoc11ox6 (fun K hK => ?stc11ox6) AllReadyH.nil)
  case hoc11ox6 => (simp only [List.getElem?_toArray, List.getElem?_cons_succ, List.getElem?_cons_zero]; rfl)
  have hg1 := blk_lt G1.out
  go_simp
  refine (VC.out Wox6 EV.out).mono ?_
  rintro e Wox6x11 ⟨vV, rfl, hes, ⟨yV, kV, dV, rfl, hle, _⟩, hfr, hb⟩
  have EK := Lib.hid (EK.out.below hb)
  have EV := Lib.hid (EV.out.below hb)
  have EQ := Lib.hid (EQ.out.below hb)
  have G1 := Lib.hid ((hb.block _ (blk_lt G1.out)).trans G1.out)
  have RK := Lib.hid (RK.out.below hb)
  have MV := Lib.hid hle
  have FV := Lib.hid (fresh_le hfr hg1)
  have RV := Lib.hid hes
  clear hes hle hfr hg1
  go_wp2_with fail
  refine hK.out _ _ (⟨hS.1.trans (hb.mono hS.1.size), (hb.block _ (blk_lt hS.2)).trans hS.2⟩) (fun hHeld => ?_)
  clear hK K
  try simp only [Act.put, List.setIfInBounds_toArray, List.set_cons_succ, List.set_cons_zero]
  clear hS
  have hS := hHeld
  clear hHeld
  clear hb
  refine wpAnyH_ready (rs := [16]) (by kernel_rfl) (by simp) ?_
  refine' (AllReadyH.cons ?hoc16ox6x11 (fun K hK => ?stc16ox6x11) AllReadyH.nil)
  case hoc16ox6x11 => (simp only [List.getElem?_toArray, List.getElem?_cons_succ, List.getElem?_cons_zero]; rfl)
  have hg1 := blk_lt G1.out
  go_simp
  refine (QC.out Wox6x11 EQ.out).mono ?_
  rintro e Wox6x11x16 ⟨vQ, rfl, hes, ⟨yQ, kQ, dQ, rfl, hle, _⟩, hfr, hb⟩
  have EK := Lib.hid (EK.out.below hb)
  have EV := Lib.hid (EV.out.below hb)
  have EQ := Lib.hid (EQ.out.below hb)
  have G1 := Lib.hid ((hb.block _ (blk_lt G1.out)).trans G1.out)
  have RK := Lib.hid (RK.out.below hb)
  have RV := Lib.hid (RV.out.below hb)
  have MQ := Lib.hid hle
  have FQ := Lib.hid (fresh_le hfr hg1)
  have RQ := Lib.hid hes
  clear hes hle hfr hg1
  go_wp2_with fail
  refine hK.out _ _ (⟨hS.1.trans (hb.mono hS.1.size), (hb.block _ (blk_lt hS.2)).trans hS.2⟩) (fun hHeld => ?_)
  clear hK K
  try simp only [Act.put, List.setIfInBounds_toArray, List.set_cons_succ, List.set_cons_zero]
  clear hS
  have hS := hHeld
  clear hHeld
  clear hb
  refine' wpAnyH_take (i := 17) ?h1x17ox6x11x16 ?hsx17ox6x11x16 ?hfx17ox6x11x16 ?hrx17ox6x11x16 ?hQx17ox6x11x16 (Or.inl ⟨?hwx17ox6x11x16, ?hyx17ox6x11x16⟩) hS ?restx17ox6x11x16
  case h1x17ox6x11x16 => (simp only [List.getElem?_toArray, List.getElem?_cons_succ, List.getElem?_cons_zero]; rfl)
  case hsx17ox6x11x16 | hfx17ox6x11x16 | hrx17ox6x11x16 => kernel_rfl
  case hQx17ox6x11x16 => exact fun _ _ _ h => h
  case hwx17ox6x11x16 => rfl
  case hyx17ox6x11x16 =>
    intro W hW
    have bb := b26f lf yK yV yQ kK kV kQ dK dV dQ W
    go_simp
    try with_reducible rfl
  simp only [Act.put, List.setIfInBounds_toArray, List.set_cons_succ, List.set_cons_zero]
  refine wpAnyH_ready (rs := [18]) (by kernel_rfl) (by simp) ?_
  refine' (AllReadyH.cons ?hoc18ox6x11x16 (fun K hK => ?stc18ox6x11x16) AllReadyH.nil)
  case hoc18ox6x11x16 => (simp only [List.getElem?_toArray, List.getElem?_cons_succ, List.getElem?_cons_zero]; rfl)
  refine step_store_row rfl 26 (.tmp 6) (.tmp 24) rfl (w.heap.size + 1) #[.bool lf, .slice yK kK dK, .slice yV kV dV, .slice yQ kQ dQ] rfl rfl 26 _ G1.out (size26' _ _ _ _) (by rw [Z4.out]; rfl) (by simp [Value.oneCell']) ?_
  have q1 := setRow_heap Wox6x11x16 (w.heap.size + 1) _ #[.bool lf, .slice yK kK dK, .slice yV kV dV, .slice yQ kQ dQ] 26 _ G1.out
  have RK' := (RK.out.setRow (cs := #[.bool lf, .slice yK kK dK, .slice yV kV dV, .slice yQ kQ dQ]) FK.out (Nat.lt_succ_self _))
  have RV' := (RV.out.setRow (cs := #[.bool lf, .slice yK kK dK, .slice yV kV dV, .slice yQ kQ dQ]) FV.out (Nat.lt_succ_self _))
  have RQ' := (RQ.out.setRow (cs := #[.bool lf, .slice yK kK dK, .slice yV kV dV, .slice yQ kQ dQ]) FQ.out (Nat.lt_succ_self _))
  have hS2 := hS.1.trans (below_row (B := w.heap.size) Wox6x11x16 #[.bool lf, .slice yK kK dK, .slice yV kV dV, .slice yQ kQ dQ] (Nat.le_succ _))
  have hS3 := (setRow_other Wox6x11x16 (w.heap.size + 1) w.heap.size #[.bool lf, .slice yK kK dK, .slice yV kV dV, .slice yQ kQ dQ] (by omega)).trans hS.2
  refine hK.out _ _ ⟨hS2, hS3⟩ (fun hHeld => ?_)
  clear hK K hHeld hS hS3
  simp only [Act.put]
  generalize Wox6x11x16.setRow (w.heap.size + 1) #[.bool lf, .slice yK kK dK, .slice yV kV dV, .slice yQ kQ dQ] = wf at *
  refine wpAnyH_done (by kernel_rfl) ?_ _
  try go_wp2_with fail
  exact bodyPost_ret (v := .agg #[.bool lf, .slice yK kK dK, .slice yV kV dV, .slice yQ kQ dQ]) (results_cell_row Try.results38 _ _ (w.heap.size + 1) 26 _ (0, 0) _ rfl q1 Try.underlying26 rfl (size26' _ _ _ _)) rfl
    ⟨_, rfl, FIN.out _ _ _ _ RK' RV' RQ', ⟨lf, yK, kK, dK, yV, kV, dV, yQ, kQ, dQ, rfl, ⟨MK.out, MV.out, MQ.out⟩, fresh_le FK.out (by omega), fresh_le FV.out (by omega), fresh_le FQ.out (by omega)⟩, hS2⟩
end Go.Proofs.Ytnifaldgofmciaa
