/-
  Contracts of node.read and node.Read. Condition: the slice reads as bytes.
-/
import Derived.Test.YtnifaldgofmciaaNdR
namespace Go.Proofs.Ytnifaldgofmciaa
open Go.RowKit
open oc (Byt Sees)
theorem readN (v : Value) (xs : List Int) (w : World) (hs : Sees w v xs) (hm : xs.length ≤ 140737488355328) : Calls Try.prog 31 #[v] w (ReadNP w xs) := by
  cases h : lfR xs with
  | true => exact read_leaf v xs w hs hm h
  | false => exact read_inner v xs w hs hm h
def nz : NV := ⟨false, [], [], []⟩
/-- Are bytes a node's? -/
def isN (xs : List Int) : Bool := rightB (rdN xs).leaf (rdN xs).ks (rdN xs).vs.length (rdN xs).qs.length && decide (nB (rdN xs) = xs)
def ReadP (w : World) (xs : List Int) (e : Ending) (w' : World) : Prop :=
  ∃ v, e = .returned (.tuple #[v, .int .i64 (if isN xs = true then 0 else 3)]) ∧ ND w' v (if isN xs = true then rdN xs else nz) ∧ Below w.heap.size w w'
def IntV (u : Value) : Prop := ∃ k x, u = .int k x
theorem cell_apart {w : World} {g b o : Nat} {Z : Array Value} {t : TypeId} {u : Value} (hg : w.heap[g]? = some (.cells Z t (0, 0))) (hZ : ∀ (i : Nat) (u : Value), Z[i]? = some u → ¬ IntV u) (hu : IntV u) (h : w.cell? ⟨b, o, none⟩ = some u) : b ≠ g := by
  rintro rfl
  rw [cell_of_row _ _ _ _ _ _ hg] at h
  exact hZ _ _ h hu
theorem KS.apart {w : World} {g : Nat} {Z cs : Array Value} {t : TypeId} {v : Value} {ks : List Int} (h : KS w v ks) (hg : w.heap[g]? = some (.cells Z t (0, 0))) (hZ : ∀ (i : Nat) (u : Value), Z[i]? = some u → ¬ IntV u) : KS (w.setRow g cs) v ks := by
  obtain ⟨h1, h2, x, c, h3, h4⟩ := h
  refine ⟨h1, h2, x, c, h3, fun i hi => ?_⟩
  obtain ⟨b, o, e1, e2, e3⟩ := h4 i hi
  exact ⟨b, o, e1, by simpa using e2, by rw [cell_setRow_other _ _ _ _ (cell_apart hg hZ ⟨_, _, rfl⟩ e3)]; exact e3⟩
theorem ES.apart {α : Type} {f : α → List Value} {e : Nat} {w : World} {g : Nat} {Z cs : Array Value} {t : TypeId} {v : Value} {xs : List α} (h : ES f e w v xs) (hf : ∀ (y : α) (u : Value), u ∈ f y → IntV u) (hg : w.heap[g]? = some (.cells Z t (0, 0))) (hZ : ∀ (i : Nat) (u : Value), Z[i]? = some u → ¬ IntV u) : ES f e (w.setRow g cs) v xs := by
  obtain ⟨h1, h2, x, c, h3, h4⟩ := h
  refine ⟨h1, h2, x, c, h3, fun i y hi => ?_⟩
  obtain ⟨b, o, e1, e2, e3⟩ := h4 i y hi
  refine ⟨b, o, e1, by simpa using e2, fun j u hj => ?_⟩
  have hc := e3 j u hj
  rw [cell_setRow_other _ _ _ _ (cell_apart hg hZ (hf y u (List.mem_of_getElem? hj)) hc)]
  exact hc
theorem ND.apart {w : World} {g : Nat} {Z cs : Array Value} {t : TypeId} {v : Value} {n : NV} (h : ND w v n) (hg : w.heap[g]? = some (.cells Z t (0, 0))) (hZ : ∀ (i : Nat) (u : Value), Z[i]? = some u → ¬ IntV u) : ND (w.setRow g cs) v n := by
  obtain ⟨K, V, Q, e, h1, h2, h3, h4, h5⟩ := h
  refine ⟨K, V, Q, e, h1.apart hg hZ, h2.apart (fun y u hu => ?_) hg hZ, h3.apart (fun y u hu => ?_) hg hZ, h4, h5⟩
  · simp only [val, List.mem_map] at hu
    obtain ⟨a, _, rfl⟩ := hu
    exact ⟨_, _, rfl⟩
  · simp only [kid, List.mem_cons, List.mem_map] at hu
    rcases hu with rfl | ⟨a, _, rfl⟩
    · exact ⟨_, _, rfl⟩
    · exact ⟨_, _, rfl⟩
theorem results_cell_tmp {P : Program} {fn : Func} {p q : Tmp} {ty : TypeId} (h : fn.results = #[.cell p ty, .tmp q]) (tmps : Array Value) (w : World) (g : Nat) (t : TypeId) (cs : Array Value) (fr : Nat × Nat) (d : TypeDesc)
    (hp : tmps.getD p undef = .pointer (some ⟨g, 0, none⟩)) (hg : w.heap[g]? = some (.cells cs t fr))
    (hu : P.underlying ty = some d) (hd : (match d with | .struct _ | .array _ _ => true | _ => false) = true) (hi : (P.info? ty).map (·.size) = some cs.size) :
    (results fn tmps).run P w = .ok (.tuple #[.agg cs, tmps.getD q undef]) w := by
  have hp' : tmps[p]?.getD undef = .pointer (some ⟨g, 0, none⟩) := by simpa using hp
  simp [results, h, hp', asAddr, run_loadVar_row w g t ty cs fr d hg hu hd hi]
theorem nd_nz (w : World) : ND w (.agg #[.bool false, .slice none 0 0, .slice none 0 0, .slice none 0 0]) nz :=
  ⟨_, _, _, rfl, ⟨by simp [nz], by simp [nz], none, 0, rfl, fun i hi => by simp [nz] at hi⟩, ⟨by simp [nz], by simp [nz], none, 0, rfl, fun i y hi => by simp [nz] at hi⟩, ⟨by simp [nz], by simp [nz], none, 0, rfl, fun i y hi => by simp [nz] at hi⟩, by simp [nz], by simp [nz]⟩
/-- The same, and the node's lists are the call's own. -/
def ReadPF (w : World) (xs : List Int) (e : Ending) (w' : World) : Prop :=
  ∃ v, e = .returned (.tuple #[v, .int .i64 (if isN xs = true then 0 else 3)]) ∧ ND w' v (if isN xs = true then rdN xs else nz) ∧ freshN w.heap.size v ∧ Below w.heap.size w w'
theorem readP_no {xs : List Int} {w w' : World} (h : isN xs = false) (hb : Below w.heap.size w w') : ReadPF w xs (.returned (.tuple #[.agg #[.bool false, .slice none 0 0, .slice none 0 0, .slice none 0 0], .int .i64 3])) w' := by
  unfold ReadPF
  rw [h]
  exact ⟨_, rfl, nd_nz _, freshN_mk (fresh_nil _) (fresh_nil _) (fresh_nil _), hb⟩
theorem readP_yes {xs : List Int} {w w' : World} {v : Value} (h : isN xs = true) (hn : ND w' v (rdN xs)) (hf : freshN w.heap.size v) (hb : Below w.heap.size w w') : ReadPF w xs (.returned (.tuple #[v, .int .i64 0])) w' := by
  unfold ReadPF
  rw [h]
  exact ⟨_, rfl, hn, hf, hb⟩
set_option maxRecDepth 100000 in
theorem z26 (w : World) : (zeroValue 26).run Try.prog w = .ok (.agg #[.bool false, .slice none 0 0, .slice none 0 0, .slice none 0 0]) w := by kernel_rfl
set_option maxRecDepth 100000 in
theorem b26 (w : World) : (Instr.build 26 #[]).run Try.prog w = .ok (.agg #[.bool false, .slice none 0 0, .slice none 0 0, .slice none 0 0]) w := by kernel_rfl
theorem wpList_blank {ops : Array Oper} {rest : List Oper} {o : Oper} {a : Act} {w : World} {Q : Exit → Act → World → Prop} (hgd : o.guard = none) (t : TypeId)
    (ho : o.op = .build t #[]) {v : Value} (hr : (Instr.build t #[]).run Try.prog w = .ok v w) (h : wpList Try.prog ops Q rest (a.put o.dst v) w) : wpList Try.prog ops Q (o :: rest) a w :=
  wpList_build_any hgd t #[] ho #[] (by simp) hr h
set_option maxRecDepth 100000 in
set_option maxHeartbeats 8000000 in
theorem readF (v : Value) (xs : List Int) (w : World) (hs : Sees w v xs) (hm : xs.length ≤ 140737488355328) : Calls Try.prog 15 #[v] w (ReadPF w xs) := by
  have hz := z26
  have hB := Lib.hid b26
  obtain ⟨Z, hZ⟩ : ∃ Z : Array Value, Z = #[.bool false, .slice none 0 0, .slice none 0 0, .slice none 0 0] := ⟨_, rfl⟩
  rw [← hZ] at hz hB
  obtain ⟨W0, hW0⟩ : ∃ W0, W0 = w.alloc (.cells Z 26) := ⟨_, rfl⟩
  have b0 : Below w.heap.size w W0 := by rw [hW0]; exact (Below.refl _ _).alloc (Nat.le_refl _) _
  have G0 : Hid (W0.heap[w.heap.size]? = some (.cells Z 26 (0, 0))) := by show _ = _; rw [hW0]; exact heap_alloc_new w _
  have BE := Lib.hid b0
  have S0 := Lib.hid (hs.below b0)
  have RN := Lib.hid (fun W (h : Sees W v xs) => readN v xs W h hm)
  have NO := Lib.hid (fun (h : isN xs = false) W' hb => readP_no (w := w) (w' := W') h hb)
  have YES := Lib.hid (fun (h : isN xs = true) W' u hn hf hb => readP_yes (w := w) (w' := W') (v := u) h hn hf hb)
  rw [← hZ] at NO
  have IZ : Hid ((Try.prog.info? 26).map (·.size) = some Z.size) := by show _ = _; rw [hZ]; exact size26' _ _ _ _
  have OZ : Hid (Z.all (·.oneCell') = true) := by show _ = _; rw [hZ]; simp [Value.oneCell']
  have ZN : Hid (∀ (i : Nat) (u : Value), Z[i]? = some u → ¬ IntV u) := by
    rw [hZ]
    rintro i u hi ⟨k, x, rfl⟩
    have := Array.mem_of_getElem? hi
    simp at this
  have Z4 : Hid (Z.size = 4) := by show _ = _; rw [hZ]; rfl
  have HW0 := Lib.hid hW0
  have HBY := Lib.hid hs.1
  clear hW0 b0 hs hm hZ
  go_enter Try.func15, Try.ntmps15
  go_upto_region 1 with (fail)
  rw [← HW0.out]
  go_wp2_with fail
  refine (RN.out _ S0.out).mono ?_
  rintro e w1 ⟨u, rfl, hn, hq, hfr, hb⟩
  have HFR := Lib.hid (freshN_le hfr BE.out.size)
  clear hfr
  obtain ⟨K, V, Q, rfl, hrest⟩ := id hn
  clear hrest
  obtain ⟨AR, hAR⟩ : ∃ AR : Array Value, AR = #[.bool (rdN xs).leaf, K, V, Q] := ⟨_, rfl⟩
  have IA : Hid ((Try.prog.info? 26).map (·.size) = some AR.size) := by show _ = _; rw [hAR]; exact size26' _ _ _ _
  have SA : Hid (Z.size = AR.size) := by show _ = _; rw [Z4.out, hAR]; rfl
  have OA : Hid (AR.all (·.oneCell') = true) := by
    show _ = _
    obtain ⟨_, _, _, e, hk, hv, hq, _⟩ := id hn
    obtain ⟨x1, n1, c1, rfl⟩ := hk.form
    obtain ⟨x2, n2, c2, rfl⟩ := hv.form
    obtain ⟨x3, n3, c3, rfl⟩ := hq.form
    cases e
    rw [hAR]; simp [Value.oneCell']
  rw [← hAR] at hn HFR
  rw [← hAR]
  clear hAR
  have BE1 := Lib.hid (BE.out.trans (hb.mono BE.out.size))
  have G1 := Lib.hid ((hb.block _ (Array.getElem?_eq_some_iff.1 G0.out).1).trans G0.out)
  have S1 := Lib.hid (S0.out.below hb)
  have HQ := Lib.hid hq
  have hal : Below w1.heap.size w1 (w1.alloc (.cells AR 26)) := (Below.refl _ _).alloc (Nat.le_refl _) _
  have GN := Lib.hid (heap_alloc_new w1 (.cells Z 26))
  have RW := Lib.hid (alloc_setRowT w1 Z AR 26 _ rfl)
  have G4 := Lib.hid (heap_alloc_new w1 (.cells AR 26))
  have ne4 := (Array.getElem?_eq_some_iff.1 G1.out).1
  have N2 := Lib.hid (hn.below hal)
  have BE2 := Lib.hid (BE1.out.trans (hal.mono BE1.out.size))
  have G2 := Lib.hid ((hal.block _ (Array.getElem?_eq_some_iff.1 G1.out).1).trans G1.out)
  have S2 := Lib.hid (S1.out.below hal)
  clear hb hq hn hal BE BE1 G0 G1 S0 S1
  go_upto_region 2 with (refine wpList_store_row rfl 26 (.tmp 4) (.tmp 8) rfl w1.heap.size AR rfl rfl 26 Z GN.out IA.out SA.out OA.out ?_)
  rw [RW.out]
  try simp only [Act.put]
  generalize w1.alloc (.cells AR 26) = w2 at *
  generalize w1.heap.size = g4 at *
  clear GN RW
  go_wp2_with (refine wpList_load_row rfl 26 (.tmp 4) rfl g4 rfl 26 AR (0, 0) _ G4.out Try.underlying26 rfl IA.out ?_)
  refine (write _ _ _ N2.out HQ.out).mono ?_
  rintro e w3 ⟨q, rfl, hsq, hb⟩
  have BE3 := Lib.hid (BE2.out.trans (hb.mono BE2.out.size))
  have G3 := Lib.hid ((hb.block _ (Array.getElem?_eq_some_iff.1 G2.out).1).trans G2.out)
  have G43 := Lib.hid ((hb.block _ (Array.getElem?_eq_some_iff.1 G4.out).1).trans G4.out)
  have S3 := Lib.hid (S2.out.below hb)
  have N3 := Lib.hid (N2.out.below hb)
  have SQ := Lib.hid hsq
  clear hb hsq BE2 G2 G4 S2 N2
  cases hr : rightB (rdN xs).leaf (rdN xs).ks (rdN xs).vs.length (rdN xs).qs.length with
  | false =>
    have e1 : wrE (rdN xs) = 3 := by unfold wrE; rw [hr]; rfl
    have eN : isN xs = false := by unfold isN; rw [hr]; rfl
    have Y := Lib.hid (NO.out eN)
    rw [e1]
    clear e1 eN hr NO YES
    go_wp2_with (first
      | (refine wpList_blank rfl 26 rfl (hB.out _) ?_)
      | (refine wpList_store_row rfl 26 (.tmp 2) (.tmp 22) rfl w.heap.size Z rfl rfl 26 Z G3.out IZ.out rfl OZ.out ?_))
    exact bodyPost_ret (v := .tuple #[.agg Z, .int .i64 3]) (results_cell_tmp Try.results15 _ _ w.heap.size 26 Z (0, 0) _ rfl (setRow_heap _ _ _ _ _ _ G3.out) Try.underlying26 rfl IZ.out) rfl (Y.out _ (BE3.out.grown (oc.grownBy_setRow _ _ _) BE3.out.size (fun k e => by cases e; exact Nat.le_refl _)))
  | true =>
    have e1 : wrE (rdN xs) = 0 := by unfold wrE; rw [hr]; rfl
    have e2 : wrV (rdN xs) = nB (rdN xs) := by unfold wrV; rw [hr]; rfl
    rw [e2] at SQ
    rw [e1]
    have SM := Lib.hid (oc.same q v _ _ w3 SQ.out S3.out)
    by_cases hd : nB (rdN xs) = xs
    · rw [decide_eq_true hd] at SM
      have eN : isN xs = true := by unfold isN; rw [hr, decide_eq_true hd]; rfl
      have Y := Lib.hid (YES.out eN)
      clear e1 e2 eN hr NO YES hd
      go_wp2_with fail
      refine SM.out.mono ?_
      rintro e w' ⟨rfl, rfl⟩
      go_wp2_with (first
        | (refine wpList_load_row rfl 26 (.tmp 4) rfl g4 rfl 26 AR (0, 0) _ G43.out Try.underlying26 rfl IA.out ?_)
        | (refine wpList_store_row rfl 26 (.tmp 2) (.tmp 23) rfl w.heap.size AR rfl rfl 26 Z G3.out IA.out SA.out OA.out ?_))
      exact bodyPost_ret (v := .tuple #[.agg AR, .int .i64 0]) (results_cell_tmp Try.results15 _ _ w.heap.size 26 AR (0, 0) _ rfl (setRow_heap _ _ _ _ _ _ G3.out) Try.underlying26 rfl IA.out) rfl (Y.out _ _ (N3.out.apart G3.out ZN.out) HFR.out (BE3.out.grown (oc.grownBy_setRow _ _ _) BE3.out.size (fun k e => by cases e; exact Nat.le_refl _)))
    · rw [decide_eq_false hd] at SM
      have eN : isN xs = false := by unfold isN; rw [hr, decide_eq_false hd]; rfl
      have Y := Lib.hid (NO.out eN)
      clear e1 e2 eN hr NO YES hd
      go_wp2_with fail
      refine SM.out.mono ?_
      rintro e w' ⟨rfl, rfl⟩
      go_wp2_with (first
        | (refine wpList_blank rfl 26 rfl (hB.out _) ?_)
        | (refine wpList_store_row rfl 26 (.tmp 2) (.tmp 22) rfl w.heap.size Z rfl rfl 26 Z G3.out IZ.out rfl OZ.out ?_))
      exact bodyPost_ret (v := .tuple #[.agg Z, .int .i64 3]) (results_cell_tmp Try.results15 _ _ w.heap.size 26 Z (0, 0) _ rfl (setRow_heap _ _ _ _ _ _ G3.out) Try.underlying26 rfl IZ.out) rfl (Y.out _ (BE3.out.grown (oc.grownBy_setRow _ _ _) BE3.out.size (fun k e => by cases e; exact Nat.le_refl _)))
theorem read (v : Value) (xs : List Int) (w : World) (hs : Sees w v xs) (hm : xs.length ≤ 140737488355328) : Calls Try.prog 15 #[v] w (ReadP w xs) :=
  (readF v xs w hs hm).mono fun _ _ ⟨u, h1, h2, _, h3⟩ => ⟨u, h1, h2, h3⟩
end Go.Proofs.Ytnifaldgofmciaa
