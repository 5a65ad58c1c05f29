/-
  Contracts of node.Find at a known place, of node.Put of a leaf and of node.Cut of a key that is there. Condition: the node reads as one whose keys rise, of no more than three hundred of each, with something for each key.
-/
import Derived.Test.YtnifaldgofmciaaNeH
namespace Go.Proofs.Ytnifaldgofmciaa
open Go.RowKit
theorem find_one {ks : List Int} {key : Int} {i j : Nat} {a b : Bool} (h : FindP ks key i a) (k : FindP ks key j b) : i = j ∧ a = b := by
  obtain ⟨h1, h2, h3, h4⟩ := h
  obtain ⟨k1, k2, k3, k4⟩ := k
  have e : i = j := by
    rcases Nat.lt_trichotomy i j with hlt | hlt | hlt
    · exfalso
      have u := k2 i hlt
      cases a with
      | true => have := (h3 rfl).2; omega
      | false => have := h4 rfl i (Nat.le_refl _) (by omega); omega
    · exact hlt
    · exfalso
      have u := h2 j hlt
      cases b with
      | true => have := (k3 rfl).2; omega
      | false => have := k4 rfl j (Nat.le_refl _) (by omega); omega
  subst e
  refine ⟨rfl, ?_⟩
  cases a <;> cases b <;> try rfl
  · exfalso
    obtain ⟨u, v⟩ := k3 rfl
    have := h4 rfl i (Nat.le_refl _) u
    omega
  · exfalso
    obtain ⟨u, v⟩ := h3 rfl
    have := k4 rfl i (Nat.le_refl _) u
    omega
theorem find_ex (key : Int) : ∀ (ks : List Int), risesB ks = true → ∃ i th, FindP ks key i th
  | [], _ => ⟨0, false, by simp, fun j h => (by omega), fun h => (by cases h), fun _ j _ h => (by simp at h)⟩
  | k :: ks, hr => by
    have hr2 : risesB ks = true := risesB_yes fun j hj => by
      have := risesB_at hr (j := j + 1) (by simp; omega)
      simpa using this
    have hlo : ∀ j, j < ks.length → k < ks.getD j 0 := fun j hj => by
      have := rises_le hr (i := 0) (j := j + 1) (by omega) (by simp; omega)
      simpa using this
    rcases Int.lt_trichotomy k key with h | h | h
    · obtain ⟨i, th, h1, h2, h3, h4⟩ := find_ex key ks hr2
      refine ⟨i + 1, th, by simp; omega, fun j hj => ?_, fun e => ?_, fun e j h5 h6 => ?_⟩
      · cases j with
        | zero => simpa using h
        | succ j => have := h2 j (by omega); simpa using this
      · obtain ⟨u, v⟩ := h3 e
        exact ⟨by simp; omega, by simpa using v⟩
      · cases j with
        | zero => omega
        | succ j => have := h4 e j (by omega) (by simp at h6; omega); simpa using this
    · refine ⟨0, true, by simp, fun j hj => (by omega), fun _ => ⟨by simp, by simpa using h⟩, fun e => (by cases e)⟩
    · refine ⟨0, false, by simp, fun j hj => (by omega), fun e => (by cases e), fun _ j h5 h6 => ?_⟩
      cases j with
      | zero => simpa using h
      | succ j =>
        have := hlo j (by simp at h6; omega)
        show key < ks.getD j 0
        omega
theorem find (v : Value) (n : NV) (key : Int) (i : Nat) (th : Bool) (w : World) (hv : ND w v n) (hr : risesB n.ks = true) (h : FindP n.ks key i th) :
    Calls Try.prog 23 #[v, .int .u64 key] w fun e w' => e = .returned (.tuple #[.int .i64 (i : Int), .bool th]) ∧ Below w.heap.size w w' :=
  (findR v n key w hv hr).mono fun e w' ⟨j, b, h1, h2, h3⟩ => by
    obtain ⟨rfl, rfl⟩ := find_one h1 h
    exact ⟨h2, h3⟩
/-- A list with something in the place of what stands from i on ahead of b. -/
def putL {α : Type} (l : List α) (i b : Nat) (x : α) : List α := l.take i ++ [x] ++ l.drop b
/-- A leaf with a key's value. -/
def putN (n : NV) (i b : Nat) (key : Int) (z : List Int) : NV := ⟨true, putL n.ks i b key, putL n.vs i b z, n.qs.take 0 ++ [] ++ n.qs.drop 0⟩
/-- Where it ends. -/
def beh (i : Nat) (th : Bool) : Nat := if th then i + 1 else i
theorem mem_put {α : Type} {l : List α} {i b : Nat} {x y : α} (h : y ∈ putL l i b x) : y ∈ l ∨ y = x := by
  unfold putL at h
  simp only [List.mem_append, List.mem_singleton] at h
  rcases h with (h | h) | h
  · exact .inl (List.mem_of_mem_take h)
  · exact .inr h
  · exact .inl (List.mem_of_mem_drop h)
set_option maxRecDepth 100000 in
theorem bs23z (z : List Int) (hz : z.length = 44) (w : World) : (Instr.buildSlice 23 1 #[(0, .agg (val z).toArray)]).run Try.prog w = .ok (.slice (some ⟨w.heap.size, 0, none⟩) 1 1) (w.alloc (.cells (val z).toArray 54)) := by
  obtain ⟨i, hi, h0, h1, h2⟩ := info_parts info54
  refine run_buildSlice w 23 54 1 _ _ i _ Try.underlying23 hi h0 (by rw [h1]; decide) (by rw [h1]; decide) ?_
  have e : (Array.range (1 * i.size)).map ((Value.agg (val (List.replicate 44 0)).toArray).cells[· % (Value.agg (val (List.replicate 44 0)).toArray).cells.size]!) = (val (List.replicate 44 0)).toArray := by rw [h1]; kernel_rfl
  rw [e]
  have hk : (val z).length = 44 := by simp [val, hz]
  show Instr.fill _ (val (List.replicate 44 0)).toArray [(0, Value.agg (val z).toArray)] = _
  rw [fill_cons (fun j => some (j * i.size, i.size)) (val (List.replicate 44 0)) 0 (0 * i.size) i.size _ _ rfl (by rw [h1]; simp [Value.cells, hk]) (by rw [h1]; simp [val])]
  rw [h1]
  simp [Instr.fill, Value.cells, val]
set_option maxRecDepth 100000 in
theorem bs22k (x : Int) (w : World) : (Instr.buildSlice 22 1 #[(0, .int .u64 x)]).run Try.prog w = .ok (.slice (some ⟨w.heap.size, 0, none⟩) 1 1) (w.alloc (.cells #[.int .u64 x] 52)) := by kernel_rfl
theorem step_bs1 {ops : Array Oper} {o : Oper} {a : Act} {w : World} {K : Act → World → Prop} {Q : Exit → Act → World → Prop} {E : Prop} (hgd : o.guard = none) (t n : Nat) (x : Operand) (ho : o.op = .buildSlice t n #[(0, x)])
    {u v' : Value} {w' : World} (hx : a.eval x = u) (hr : (Instr.buildSlice t n #[(0, u)]).run Try.prog w = .ok v' w') (hK : K (a.put o.dst v') w') : if Region.wanted o (yielded ops a.tmps) = true then Oper.wp Try.prog o a w K Q else E := by
  have hw : Region.wanted o (yielded ops a.tmps) = true := by simp [Region.wanted, hgd]
  rw [if_pos hw]
  unfold Oper.wp execOp
  simp only [ho, Sem.run_bind, Sem.run_pure, Result.andThen_ok, List.map_toArray, List.map_cons, List.map_nil, hx, hr]
  exact hK
theorem es_one {α : Type} {f : α → List Value} {e g ty : Nat} {w : World} {x : α} (hg : w.heap[g]? = some (.cells (f x).toArray ty (0, 0))) (hl : (f x).length = e) : ES f e w (.slice (some ⟨g, 0, none⟩) 1 1) [x] := by
  refine ⟨by simp, by simpa using hl, some ⟨g, 0, none⟩, 1, rfl, fun i y hi => ⟨g, 0, rfl, (Array.getElem?_eq_some_iff.1 hg).1, ?_⟩⟩
  cases i with
  | succ i => simp at hi
  | zero =>
    have hy : x = y := by simpa using hi
    subst hy
    intro j u hj
    simp only [Nat.zero_mul, Nat.zero_add]
    rw [cell_row hg]
    simpa using hj
theorem i54 {z : List Int} (h : z.length = 44) : (Try.prog.info? 54).map (·.size) = some (val z).toArray.size := by
  rw [show (Try.prog.info? 54).map (·.size) = some 44 from by kernel_rfl]
  simp [val, h]
set_option maxRecDepth 100000 in
set_option maxHeartbeats 8000000 in
theorem cut (A : Array Value) (n : NV) (i : Nat) (w : World) (hv : ND w (.agg A) n) (hA : okA 0 A) (hs : small n) (hw : wholeB n = true) (hi : i < n.ks.length) : Calls Try.prog 24 #[.agg A, .int .i64 (i : Int)] w (NewN w (cutN n i (i + 1))) := by
  have hz := z26
  obtain ⟨Z, hZ⟩ : ∃ Z : Array Value, Z = #[.bool false, .slice none 0 0, .slice none 0 0, .slice none 0 0] := ⟨_, rfl⟩
  rw [← hZ] at hz
  have Z4 : Hid (Z.size = 4) := by show _ = _; rw [hZ]; rfl
  clear hZ
  have IA := Lib.hid hA.info
  have WH : Hid (∀ W, ND W (.agg A) n → Calls Try.prog 37 #[.agg A] W fun e w' => e = .returned (.bool true) ∧ Below W.heap.size W w') := fun W h => by have := whole _ n W h; rw [hw] at this; exact this
  have WO : Hid (∀ W, ND W (.agg A) n → Calls Try.prog 38 #[.agg A, .int .i64 (i : Int), .int .i64 ((i : Int) + 1)] W (NewN W (cutN n i (i + 1)))) := fun W h => without A n i (i + 1) W h hA hs
  obtain ⟨x1, c1, a1, _⟩ := hv.keys
  have AA1 := Lib.hid a1
  have hl : (n.ks.length : Int) ≤ 300 := by have := hs.1; omega
  have hii : (i : Int) < (n.ks.length : Int) := by omega
  have hge : ¬ ((n.ks.length : Int) ≤ (i : Int)) := by omega
  generalize n.ks.length = l at *
  obtain ⟨W1, hW1⟩ : ∃ W1, W1 = (w.alloc (.cells A 26)).alloc (.cells Z 26) := ⟨_, rfl⟩
  have b0 : Below w.heap.size w (w.alloc (.cells A 26)) := (Below.refl _ _).alloc (Nat.le_refl _) _
  have b1 : Below w.heap.size w W1 := by rw [hW1]; exact b0.alloc (by simp) _
  have G0 : Hid (W1.heap[w.heap.size]? = some (.cells A 26 (0, 0))) := by show _ = _; rw [hW1, Below.heap_alloc _ _ _ (by simp)]; exact heap_alloc_new w _
  have G1 : Hid (W1.heap[w.heap.size + 1]? = some (.cells Z 26 (0, 0))) := by
    show _ = _
    rw [hW1]
    have := heap_alloc_new (w.alloc (.cells A 26)) (.cells Z 26)
    simpa using this
  have NR := Lib.hid (hv.below b1)
  have B1 := Lib.hid b1
  have HW1 := Lib.hid hW1
  clear hW1 b0 b1 hv hA hs hw a1 hi
  generalize cutN n i (i + 1) = R at *
  go_enter Try.func24, Try.ntmps24
  go_upto_region 1 with (fail)
  rw [← HW1.out]
  clear hz
  go_wp2_with (refine wpList_load_row rfl 26 (.tmp 2) rfl w.heap.size rfl 26 A (0, 0) _ G0.out Try.underlying26 rfl IA.out ?_)
  refine (WH.out _ NR.out).mono ?_
  rintro e w2 ⟨rfl, hb⟩
  have B1 := Lib.hid (B1.out.trans (hb.mono B1.out.size))
  have G0 := Lib.hid ((hb.block _ (blk_lt G0.out)).trans G0.out)
  have G1 := Lib.hid ((hb.block _ (blk_lt G1.out)).trans G1.out)
  have NR := Lib.hid (NR.out.below hb)
  clear hb
  have cc := (cell_row G0.out 1).trans AA1.out
  go_wp2_with (refine wpList_load_row rfl 26 (.tmp 2) rfl w.heap.size rfl 26 A (0, 0) _ G0.out Try.underlying26 rfl IA.out ?_)
  refine (WO.out _ NR.out).mono ?_
  rintro e w3 ⟨X, rfl, hn, hok, hb⟩
  have lt1 := blk_lt G1.out
  have B1 := Lib.hid (B1.out.trans (hb.mono B1.out.size))
  have G1 := Lib.hid ((hb.block _ (blk_lt G1.out)).trans G1.out)
  clear hb cc
  have S1 : Hid (Z.size = X.size) := by show _ = _; rw [Z4.out, hok.four]
  have IX := Lib.hid hok.info
  have OX := Lib.hid hok.one
  have nX := hn.setRow (cs := X) hok lt1
  have q1 := Lib.hid (setRow_heap w3 (w.heap.size + 1) _ X 26 _ G1.out)
  have b2 := B1.out.trans (below_row (B := w.heap.size) w3 X (show w.heap.size ≤ w.heap.size + 1 by omega))
  have OKX := Lib.hid (hok.le (show w.heap.size ≤ w2.heap.size by omega))
  have NX := Lib.hid nX
  have B2 := Lib.hid b2
  clear hn hok nX b2 lt1
  go_wp2_with (refine wpList_store_row rfl 26 (.tmp 4) (.tmp 24) rfl (w.heap.size + 1) X rfl rfl 26 Z G1.out IX.out S1.out OX.out ?_)
  exact bodyPost_ret (v := .agg X) (results_cell_row Try.results24 _ _ (w.heap.size + 1) 26 _ (0, 0) _ rfl q1.out Try.underlying26 rfl IX.out) rfl
    ⟨_, rfl, NX.out, OKX.out, B2.out⟩
set_option maxRecDepth 100000 in
set_option maxHeartbeats 16000000 in
theorem put_true (A : Array Value) (n : NV) (key : Int) (z : List Int) (i : Nat) (w : World) (hv : ND w (.agg A) n) (hA : okA 0 A) (hs : small n) (hw : wholeB n = true) (hlf : n.leaf = true) (hr : risesB n.ks = true) (hF : FindP n.ks key i true)
    (hk : 0 ≤ key ∧ key ≤ 18446744073709551615) (hz0 : ∀ x ∈ z, 0 ≤ x ∧ x ≤ 255) (hz1 : z.length = 44) : Calls Try.prog 22 #[.agg A, .int .u64 key, .agg (val z).toArray] w (NewN w (putN n i (beh i true) key z)) := by
  have hz := z26
  obtain ⟨Z, hZ⟩ : ∃ Z : Array Value, Z = #[.bool false, .slice none 0 0, .slice none 0 0, .slice none 0 0] := ⟨_, rfl⟩
  rw [← hZ] at hz
  have Z4 : Hid (Z.size = 4) := by show _ = _; rw [hZ]; rfl
  clear hZ
  have IA := Lib.hid hA.info
  have IV := Lib.hid (i54 hz1)
  have BS := Lib.hid (bs23z z hz1)
  have WH : Hid (∀ W, ND W (.agg A) n → Calls Try.prog 37 #[.agg A] W fun e w' => e = .returned (.bool true) ∧ Below W.heap.size W w') := fun W h => by have := whole _ n W h; rw [hw] at this; exact this
  have FD : Hid (∀ W, ND W (.agg A) n → Calls Try.prog 23 #[.agg A, .int .u64 key] W fun e w' => e = .returned (.tuple #[.int .i64 (i : Int), .bool true]) ∧ Below W.heap.size W w') := fun W h => find _ n key i true W h hr hF
  have hil : i ≤ 300 := Nat.le_trans hF.1 hs.1
  have NR := Lib.hid hv
  obtain ⟨K, V, Q, e, h1, h2, h3, h4, h5⟩ := hv
  obtain ⟨lf, x1, n1, c1, x2, n2, c2, x3, n3, c3, hAe, ⟨m1, m2, m3⟩, f1, f2, f3⟩ := hA
  rw [hAe] at e
  simp only [Value.agg.injEq, Array.mk.injEq, List.cons.injEq, Value.bool.injEq, and_true] at e
  obtain ⟨hle, rfl, rfl, rfl⟩ := e
  rw [hlf] at hle
  subst hle
  obtain ⟨s1, s2, s3⟩ := hs
  have A0 : Hid (A[0]? = some (.bool true)) := by show _ = _; rw [hAe]; rfl
  have A1 : Hid (A[1]? = some (.slice x1 n1 c1)) := by show _ = _; rw [hAe]; rfl
  have A2 : Hid (A[2]? = some (.slice x2 n2 c2)) := by show _ = _; rw [hAe]; rfl
  have A3 : Hid (A[3]? = some (.slice x3 n3 c3)) := by show _ = _; rw [hAe]; rfl
  clear hAe f1 f2 f3
  have KC : Hid (∀ (W : World) (g : Nat), W.heap[g]? = some (.cells #[.int .u64 key] 52 (0, 0)) → ES key1 1 W (.slice x1 n1 c1) n.ks → Calls Try.prog 42 #[.slice x1 n1 c1, .int .i64 (i : Int), .int .i64 ((i : Int) + 1), .slice (some ⟨g, 0, none⟩) 1 1] W (ConcP key1 1 W (putL n.ks i (beh i true) key))) := fun W g a b => splK n.ks [key] i (beh i true) x1 n1 c1 (some ⟨g, 0, none⟩) 1 1 W b m1 (es_one a rfl) s1 (by simp)
  have VC : Hid (∀ (W : World) (g : Nat), W.heap[g]? = some (.cells (val z).toArray 54 (0, 0)) → ES val 44 W (.slice x2 n2 c2) n.vs → Calls Try.prog 43 #[.slice x2 n2 c2, .int .i64 (i : Int), .int .i64 ((i : Int) + 1), .slice (some ⟨g, 0, none⟩) 1 1] W (ConcP val 44 W (putL n.vs i (beh i true) z))) := fun W g a b => splV n.vs [z] i (beh i true) x2 n2 c2 (some ⟨g, 0, none⟩) 1 1 W b m2 (es_one a (by simp [val, hz1])) s2 (by simp)
  have QC : Hid (∀ W, ES kid 33 W (.slice x3 n3 c3) n.qs → Calls Try.prog 44 #[.slice x3 n3 c3, .int .i64 0, .int .i64 0, .slice none 0 0] W (ConcP kid 33 W (n.qs.take 0 ++ [] ++ n.qs.drop 0))) := fun W h => splQ n.qs [] 0 0 x3 n3 c3 none 0 0 W h m3 (ES.nil 0) s3 (by simp)
  have FIN : Hid (∀ (W : World) (K V Q : Value), ES key1 1 W K (putL n.ks i (beh i true) key) → ES val 44 W V (putL n.vs i (beh i true) z) → ES kid 33 W Q (n.qs.take 0 ++ [] ++ n.qs.drop 0) → ND W (.agg #[.bool true, K, V, Q]) (putN n i (beh i true) key z)) := fun W K V Q g1 g2 g3 =>
    ⟨K, V, Q, rfl, g1.ks (fun k hm => (mem_put hm).elim (h1.1 k) (fun e => by rw [e]; exact hk)), g2, g3, fun y hm => (mem_put hm).elim (h4 y) (fun e => by rw [e]; exact ⟨hz0, hz1⟩), fun p hp => h5 p (mem_cut hp)⟩
  obtain ⟨CV, hCV⟩ : ∃ CV : Array Value, CV = (val z).toArray := ⟨_, rfl⟩
  rw [← hCV] at IV BS VC ⊢
  obtain ⟨W1, hW1⟩ : ∃ W1, W1 = ((w.alloc (.cells A 26)).alloc (.cells CV 54)).alloc (.cells Z 26) := ⟨_, rfl⟩
  have b0 : Below w.heap.size w (w.alloc (.cells A 26)) := (Below.refl _ _).alloc (Nat.le_refl _) _
  have b1 : Below w.heap.size w ((w.alloc (.cells A 26)).alloc (.cells CV 54)) := b0.alloc (by simp) _
  have b2 : Below w.heap.size w W1 := by rw [hW1]; exact b1.alloc (by simp; omega) _
  have G0 : Hid (W1.heap[w.heap.size]? = some (.cells A 26 (0, 0))) := by show _ = _; rw [hW1, Below.heap_alloc _ _ _ (by simp; omega), Below.heap_alloc _ _ _ (by simp)]; exact heap_alloc_new w _
  have G1 : Hid (W1.heap[w.heap.size + 1]? = some (.cells CV 54 (0, 0))) := by
    show _ = _
    rw [hW1, Below.heap_alloc _ _ _ (by simp)]
    have := heap_alloc_new (w.alloc (.cells A 26)) (.cells CV 54)
    simpa using this
  have G2 : Hid (W1.heap[w.heap.size + 2]? = some (.cells Z 26 (0, 0))) := by
    show _ = _
    rw [hW1]
    have := heap_alloc_new ((w.alloc (.cells A 26)).alloc (.cells CV 54)) (.cells Z 26)
    simpa using this
  have EK := Lib.hid (h1.es.below b2)
  have EV := Lib.hid (h2.below b2)
  have EQ := Lib.hid (h3.below b2)
  have NR := Lib.hid (NR.out.below b2)
  have B1 := Lib.hid b2
  have HW1 := Lib.hid hW1
  have hil2 : (i : Int) ≤ 300 := by omega
  clear hW1 b0 b1 b2 h1 h2 h3 h4 h5 s1 s2 s3 m1 m2 m3 hw hr hF hk hz0 hz1 hCV hil hlf
  generalize putN n i (beh i true) key z = R at *
  generalize putL n.ks i (beh i true) key = LK at *
  generalize putL n.vs i (beh i true) z = LV at *
  generalize n.qs.take 0 ++ [] ++ n.qs.drop 0 = LQ at *
  go_enter Try.func22, Try.ntmps22
  go_upto_region 1 with (fail)
  rw [← HW1.out]
  clear hz
  have cc := (cell_row G0.out 0).trans A0.out
  go_wp2_with (refine wpList_load_met rfl 26 (.tmp 3) rfl w.heap.size rfl 26 A (0, 0) _ G0.out Try.underlying26 ⟨_, rfl⟩ IA.out ?_)
  refine (WH.out _ NR.out).mono ?_
  rintro e w2 ⟨rfl, hb⟩
  have B1 := Lib.hid (B1.out.trans (hb.mono B1.out.size))
  have G0 := Lib.hid ((hb.block _ (blk_lt G0.out)).trans G0.out)
  have G1 := Lib.hid ((hb.block _ (blk_lt G1.out)).trans G1.out)
  have G2 := Lib.hid ((hb.block _ (blk_lt G2.out)).trans G2.out)
  have EK := Lib.hid (EK.out.below hb)
  have EV := Lib.hid (EV.out.below hb)
  have EQ := Lib.hid (EQ.out.below hb)
  have NR := Lib.hid (NR.out.below hb)
  clear hb cc
  go_wp2_with (refine wpList_load_row rfl 26 (.tmp 3) rfl w.heap.size rfl 26 A (0, 0) _ G0.out Try.underlying26 rfl IA.out ?_)
  refine (FD.out _ NR.out).mono ?_
  rintro e w3 ⟨rfl, hb⟩
  have B1 := Lib.hid (B1.out.trans (hb.mono B1.out.size))
  have G0 := Lib.hid ((hb.block _ (blk_lt G0.out)).trans G0.out)
  have G1 := Lib.hid ((hb.block _ (blk_lt G1.out)).trans G1.out)
  have G2 := Lib.hid ((hb.block _ (blk_lt G2.out)).trans G2.out)
  have EK := Lib.hid (EK.out.below hb)
  have EV := Lib.hid (EV.out.below hb)
  have EQ := Lib.hid (EQ.out.below hb)
  have NR := Lib.hid (NR.out.below hb)
  clear hb NR
  go_wp2_with fail
  refine wp_region_held_drew (S := fun W => Below w.heap.size w W ∧ W.heap[w.heap.size]? = some (.cells A 26 (0, 0)) ∧ W.heap[(w.heap.size + 1)]? = some (.cells CV 54 (0, 0))) (by kernel_rfl) (⟨B1.out.drew, G0.out, G1.out⟩) (fun hS => ?_)
  have hb0 : Below w3.heap.size w3 w3.drew := (Below.refl _ _).drew
  have qEK := EK.out.below hb0
  have qEV := EV.out.below hb0
  have qEQ := EQ.out.below hb0
  have qG2 := (hb0.block _ (blk_lt G2.out)).trans G2.out
  clear hb0 EK EV EQ G2
  generalize w3.drew = Wts at hS qEK qEV qEQ qG2 ⊢
  have EK := Lib.hid qEK
  have EV := Lib.hid qEV
  have EQ := Lib.hid qEQ
  have G2 := Lib.hid qG2
  clear qEK qEV qEQ qG2
  refine' wpAnyH_take (i := 0) ?h1x0t ?hsx0t ?hfx0t ?hrx0t ?hQx0t (Or.inl ⟨?hwx0t, ?hyx0t⟩) hS ?restx0t
  case h1x0t => (simp only [List.getElem?_toArray, List.getElem?_cons_zero]; rfl)
  case hsx0t => kernel_rfl
  case hfx0t => kernel_rfl
  case hrx0t => kernel_rfl
  case hQx0t => exact fun _ _ _ h => h
  case hwx0t => rfl
  case hyx0t =>
    intro W hW
    go_simp
    try with_reducible rfl
  simp only [Act.put, List.setIfInBounds_toArray, List.set_cons_succ, List.set_cons_zero]
  refine' wpAnyH_take (i := 2) ?h1x2t ?hsx2t ?hfx2t ?hrx2t ?hQx2t (Or.inl ⟨?hwx2t, ?hyx2t⟩) hS ?restx2t
  case h1x2t => (simp only [List.getElem?_toArray, List.getElem?_cons_succ, List.getElem?_cons_zero]; rfl)
  case hsx2t => kernel_rfl
  case hfx2t => kernel_rfl
  case hrx2t => kernel_rfl
  case hQx2t => exact fun _ _ _ h => h
  case hwx2t => rfl
  case hyx2t =>
    intro W hW
    go_simp
    try with_reducible rfl
  simp only [Act.put, List.setIfInBounds_toArray, List.set_cons_succ, List.set_cons_zero]
  refine' wpAnyH_take (i := 3) ?h1x3t ?hsx3t ?hfx3t ?hrx3t ?hQx3t (Or.inl ⟨?hwx3t, ?hyx3t⟩) hS ?restx3t
  case h1x3t => (simp only [List.getElem?_toArray, List.getElem?_cons_succ, List.getElem?_cons_zero]; rfl)
  case hsx3t => kernel_rfl
  case hfx3t => kernel_rfl
  case hrx3t => kernel_rfl
  case hQx3t => exact fun _ _ _ h => h
  case hwx3t => rfl
  case hyx3t =>
    intro W hW
    go_simp
    try with_reducible rfl
  simp only [Act.put, List.setIfInBounds_toArray, List.set_cons_succ, List.set_cons_zero]
  refine' wpAnyH_take (i := 4) ?h1x4t ?hsx4t ?hfx4t ?hrx4t ?hQx4t (Or.inl ⟨?hwx4t, ?hyx4t⟩) hS ?restx4t
  case h1x4t => (simp only [List.getElem?_toArray, List.getElem?_cons_succ, List.getElem?_cons_zero]; rfl)
  case hsx4t => kernel_rfl
  case hfx4t => kernel_rfl
  case hrx4t => kernel_rfl
  case hQx4t => exact fun _ _ _ h => h
  case hwx4t => rfl
  case hyx4t =>
    intro W hW
    go_simp
    try with_reducible rfl
  simp only [Act.put, List.setIfInBounds_toArray, List.set_cons_succ, List.set_cons_zero]
  refine' wpAnyH_take (i := 7) ?h1x7t ?hsx7t ?hfx7t ?hrx7t ?hQx7t (Or.inl ⟨?hwx7t, ?hyx7t⟩) hS ?restx7t
  case h1x7t => (simp only [List.getElem?_toArray, List.getElem?_cons_succ, List.getElem?_cons_zero]; rfl)
  case hsx7t => kernel_rfl
  case hfx7t => kernel_rfl
  case hrx7t => kernel_rfl
  case hQx7t => exact fun _ _ _ h => h
  case hwx7t => rfl
  case hyx7t =>
    intro W hW
    go_simp
    try with_reducible rfl
  simp only [Act.put, List.setIfInBounds_toArray, List.set_cons_succ, List.set_cons_zero]
  refine' wpAnyH_take (i := 9) ?h1x9t ?hsx9t ?hfx9t ?hrx9t ?hQx9t (Or.inl ⟨?hwx9t, ?hyx9t⟩) hS ?restx9t
  case h1x9t => (simp only [List.getElem?_toArray, List.getElem?_cons_succ, List.getElem?_cons_zero]; rfl)
  case hsx9t => kernel_rfl
  case hfx9t => kernel_rfl
  case hrx9t => kernel_rfl
  case hQx9t => exact fun _ _ _ h => h
  case hwx9t => rfl
  case hyx9t =>
    intro W hW
    go_simp
    try with_reducible rfl
  simp only [Act.put, List.setIfInBounds_toArray, List.set_cons_succ, List.set_cons_zero]
  refine' wpAnyH_take (i := 10) ?h1x10t ?hsx10t ?hfx10t ?hrx10t ?hQx10t (Or.inl ⟨?hwx10t, ?hyx10t⟩) hS ?restx10t
  case h1x10t => (simp only [List.getElem?_toArray, List.getElem?_cons_succ, List.getElem?_cons_zero]; rfl)
  case hsx10t => kernel_rfl
  case hfx10t => kernel_rfl
  case hrx10t => kernel_rfl
  case hQx10t => exact fun _ _ _ h => h
  case hwx10t => rfl
  case hyx10t =>
    intro W hW
    go_simp
    try with_reducible rfl
  simp only [Act.put, List.setIfInBounds_toArray, List.set_cons_succ, List.set_cons_zero]
  refine' wpAnyH_take (i := 11) ?h1x11t ?hsx11t ?hfx11t ?hrx11t ?hQx11t (yieldsIf_load_at ?hwx11t 54 (.tmp 5) ?hopx11t (w.heap.size + 1) 0 rfl CV _ (fun W hW => range_row hW.2.2) Try.underlying54 rfl ?hix11t) hS ?restx11t
  case h1x11t => (simp only [List.getElem?_toArray, List.getElem?_cons_succ, List.getElem?_cons_zero]; rfl)
  case hopx11t => rfl
  case hsx11t => kernel_rfl
  case hfx11t => kernel_rfl
  case hrx11t => kernel_rfl
  case hQx11t => exact fun _ _ _ h => h
  case hwx11t => rfl
  case hix11t => exact IV.out
  simp only [Act.put, List.setIfInBounds_toArray, List.set_cons_succ, List.set_cons_zero]
  refine' wpAnyH_take (i := 14) ?h1x14t ?hsx14t ?hfx14t ?hrx14t ?hQx14t (Or.inl ⟨?hwx14t, ?hyx14t⟩) hS ?restx14t
  case h1x14t => (simp only [List.getElem?_toArray, List.getElem?_cons_succ, List.getElem?_cons_zero]; rfl)
  case hsx14t => kernel_rfl
  case hfx14t => kernel_rfl
  case hrx14t => kernel_rfl
  case hQx14t => exact fun _ _ _ h => h
  case hwx14t => rfl
  case hyx14t =>
    intro W hW
    go_simp
    try with_reducible rfl
  simp only [Act.put, List.setIfInBounds_toArray, List.set_cons_succ, List.set_cons_zero]
  refine' wpAnyH_take (i := 1) ?h1x1t ?hsx1t ?hfx1t ?hrx1t ?hQx1t (Or.inl ⟨?hwx1t, ?hyx1t⟩) hS ?restx1t
  case h1x1t => (simp only [List.getElem?_toArray, List.getElem?_cons_succ, List.getElem?_cons_zero]; rfl)
  case hsx1t => kernel_rfl
  case hfx1t => kernel_rfl
  case hrx1t => kernel_rfl
  case hQx1t => exact fun _ _ _ h => h
  case hwx1t => rfl
  case hyx1t =>
    intro W hW
    have cc := (cell_row hW.2.1 1).trans A1.out
    go_simp
    try with_reducible rfl
  simp only [Act.put, List.setIfInBounds_toArray, List.set_cons_succ, List.set_cons_zero]
  refine' wpAnyH_take (i := 8) ?h1x8t ?hsx8t ?hfx8t ?hrx8t ?hQx8t (Or.inl ⟨?hwx8t, ?hyx8t⟩) hS ?restx8t
  case h1x8t => (simp only [List.getElem?_toArray, List.getElem?_cons_succ, List.getElem?_cons_zero]; rfl)
  case hsx8t => kernel_rfl
  case hfx8t => kernel_rfl
  case hrx8t => kernel_rfl
  case hQx8t => exact fun _ _ _ h => h
  case hwx8t => rfl
  case hyx8t =>
    intro W hW
    have cc := (cell_row hW.2.1 2).trans A2.out
    go_simp
    try with_reducible rfl
  simp only [Act.put, List.setIfInBounds_toArray, List.set_cons_succ, List.set_cons_zero]
  refine' wpAnyH_take (i := 15) ?h1x15t ?hsx15t ?hfx15t ?hrx15t ?hQx15t (Or.inl ⟨?hwx15t, ?hyx15t⟩) hS ?restx15t
  case h1x15t => (simp only [List.getElem?_toArray, List.getElem?_cons_succ, List.getElem?_cons_zero]; rfl)
  case hsx15t => kernel_rfl
  case hfx15t => kernel_rfl
  case hrx15t => kernel_rfl
  case hQx15t => exact fun _ _ _ h => h
  case hwx15t => rfl
  case hyx15t =>
    intro W hW
    have cc := (cell_row hW.2.1 3).trans A3.out
    go_simp
    try with_reducible rfl
  simp only [Act.put, List.setIfInBounds_toArray, List.set_cons_succ, List.set_cons_zero]
  refine wpAnyH_ready (rs := [5, 12]) (by kernel_rfl) (by simp) ?_
  refine' (AllReadyH.cons ?hoc5t (fun K hK => ?stc5t) (AllReadyH.cons ?hoc12t (fun K hK => ?stc12t) AllReadyH.nil))
  case hoc5t => (simp only [List.getElem?_toArray, List.getElem?_cons_succ, List.getElem?_cons_zero]; rfl)
  case hoc12t => (simp only [List.getElem?_toArray, List.getElem?_cons_succ, List.getElem?_cons_zero]; rfl)
  case stc5t =>
    refine step_bs1 rfl 22 1 (.tmp 33) rfl rfl (bs22k key _) ?_
    have hb := (Below.refl Wts.heap.size Wts).alloc (Nat.le_refl _) (.cells #[.int .u64 key] 52)
    refine hK.out _ _ (⟨hS.1.trans (hb.mono hS.1.size), (hb.block _ (blk_lt hS.2.1)).trans hS.2.1, (hb.block _ (blk_lt hS.2.2)).trans hS.2.2⟩) (fun hHeld => ?_)
    clear hK K
    try simp only [Act.put, List.setIfInBounds_toArray, List.set_cons_succ, List.set_cons_zero]
    have qP5 := heap_alloc_new Wts (.cells #[.int .u64 key] 52)
    have hp5 := hS.1.size
    have qEK := EK.out.below hb
    have qEV := EV.out.below hb
    have qEQ := EQ.out.below hb
    have qG2 := (hb.block _ (blk_lt G2.out)).trans G2.out
    clear hS
    have hS := hHeld
    clear hHeld
    clear hb
    clear EK EV EQ G2
    generalize Wts.alloc (.cells #[.int .u64 key] 52) = Wtx5 at *
    generalize Wts.heap.size = p5 at *
    have EK := Lib.hid qEK
    have EV := Lib.hid qEV
    have EQ := Lib.hid qEQ
    have G2 := Lib.hid qG2
    have P5 := Lib.hid qP5
    clear qEK qEV qEQ qG2 qP5
    refine wpAnyH_ready (rs := [6, 12]) (by kernel_rfl) (by simp) ?_
    refine' (AllReadyH.cons ?hoc6tx5 (fun K hK => ?stc6tx5) (AllReadyH.cons ?hoc12tx5 (fun K hK => ?stc12tx5) AllReadyH.nil))
    case hoc6tx5 => (simp only [List.getElem?_toArray, List.getElem?_cons_succ, List.getElem?_cons_zero]; rfl)
    case hoc12tx5 => (simp only [List.getElem?_toArray, List.getElem?_cons_succ, List.getElem?_cons_zero]; rfl)
    case stc6tx5 =>
      have hg1 := blk_lt G2.out
      go_simp
      refine (KC.out Wtx5 _ P5.out EK.out).mono ?_
      rintro e Wtx5x6 ⟨vK, rfl, hes, ⟨yK, kK, dK, rfl, hle, _⟩, hfr, hb⟩
      have EK := Lib.hid (EK.out.below hb)
      have EV := Lib.hid (EV.out.below hb)
      have EQ := Lib.hid (EQ.out.below hb)
      have G2 := Lib.hid ((hb.block _ (blk_lt G2.out)).trans G2.out)
      have P5 := Lib.hid ((hb.block _ (blk_lt P5.out)).trans P5.out)
      have MK := Lib.hid hle
      have FK := Lib.hid (fresh_le hfr hg1)
      have RK := Lib.hid hes
      clear hes hle hfr hg1
      go_wp2_with fail
      refine hK.out _ _ (⟨hS.1.trans (hb.mono hS.1.size), (hb.block _ (blk_lt hS.2.1)).trans hS.2.1, (hb.block _ (blk_lt hS.2.2)).trans hS.2.2⟩) (fun hHeld => ?_)
      clear hK K
      try simp only [Act.put, List.setIfInBounds_toArray, List.set_cons_succ, List.set_cons_zero]
      clear hS
      have hS := hHeld
      clear hHeld
      clear hb
      refine wpAnyH_ready (rs := [12]) (by kernel_rfl) (by simp) ?_
      refine' (AllReadyH.cons ?hoc12tx5x6 (fun K hK => ?stc12tx5x6) AllReadyH.nil)
      case hoc12tx5x6 => (simp only [List.getElem?_toArray, List.getElem?_cons_succ, List.getElem?_cons_zero]; rfl)
      refine step_bs1 rfl 23 1 (.tmp 40) rfl rfl (BS.out _) ?_
      have hb := (Below.refl Wtx5x6.heap.size Wtx5x6).alloc (Nat.le_refl _) (.cells CV 54)
      refine hK.out _ _ (⟨hS.1.trans (hb.mono hS.1.size), (hb.block _ (blk_lt hS.2.1)).trans hS.2.1, (hb.block _ (blk_lt hS.2.2)).trans hS.2.2⟩) (fun hHeld => ?_)
      clear hK K
      try simp only [Act.put, List.setIfInBounds_toArray, List.set_cons_succ, List.set_cons_zero]
      have qP12 := heap_alloc_new Wtx5x6 (.cells CV 54)
      have hp12 := hS.1.size
      have qEK := EK.out.below hb
      have qEV := EV.out.below hb
      have qEQ := EQ.out.below hb
      have qG2 := (hb.block _ (blk_lt G2.out)).trans G2.out
      have nep12p5 : Wtx5x6.heap.size ≠ p5 := by have := blk_lt P5.out; omega
      have qP5 := (hb.block _ (blk_lt P5.out)).trans P5.out
      have qRK := RK.out.below hb
      clear hS
      have hS := hHeld
      clear hHeld
      clear hb
      clear EK EV EQ G2 P5 RK
      generalize Wtx5x6.alloc (.cells CV 54) = Wtx5x6x12 at *
      generalize Wtx5x6.heap.size = p12 at *
      have EK := Lib.hid qEK
      have EV := Lib.hid qEV
      have EQ := Lib.hid qEQ
      have G2 := Lib.hid qG2
      have P5 := Lib.hid qP5
      have RK := Lib.hid qRK
      have P12 := Lib.hid qP12
      clear qEK qEV qEQ qG2 qP5 qRK qP12
      refine wpAnyH_ready (rs := [13]) (by kernel_rfl) (by simp) ?_
      refine' (AllReadyH.cons ?hoc13tx5x6x12 (fun K hK => ?stc13tx5x6x12) AllReadyH.nil)
      case hoc13tx5x6x12 => (simp only [List.getElem?_toArray, List.getElem?_cons_succ, List.getElem?_cons_zero]; rfl)
      have hg1 := blk_lt G2.out
      go_simp
      refine (VC.out Wtx5x6x12 _ P12.out EV.out).mono ?_
      rintro e Wtx5x6x12x13 ⟨vV, rfl, hes, ⟨yV, kV, dV, rfl, hle, _⟩, hfr, hb⟩
      have EK := Lib.hid (EK.out.below hb)
      have EV := Lib.hid (EV.out.below hb)
      have EQ := Lib.hid (EQ.out.below hb)
      have G2 := Lib.hid ((hb.block _ (blk_lt G2.out)).trans G2.out)
      have P5 := Lib.hid ((hb.block _ (blk_lt P5.out)).trans P5.out)
      have RK := Lib.hid (RK.out.below hb)
      have P12 := Lib.hid ((hb.block _ (blk_lt P12.out)).trans P12.out)
      have MV := Lib.hid hle
      have FV := Lib.hid (fresh_le hfr hg1)
      have RV := Lib.hid hes
      clear hes hle hfr hg1
      go_wp2_with fail
      refine hK.out _ _ (⟨hS.1.trans (hb.mono hS.1.size), (hb.block _ (blk_lt hS.2.1)).trans hS.2.1, (hb.block _ (blk_lt hS.2.2)).trans hS.2.2⟩) (fun hHeld => ?_)
      clear hK K
      try simp only [Act.put, List.setIfInBounds_toArray, List.set_cons_succ, List.set_cons_zero]
      clear hS
      have hS := hHeld
      clear hHeld
      clear hb
      refine wpAnyH_ready (rs := [16]) (by kernel_rfl) (by simp) ?_
      refine' (AllReadyH.cons ?hoc16tx5x6x12x13 (fun K hK => ?stc16tx5x6x12x13) AllReadyH.nil)
      case hoc16tx5x6x12x13 => (simp only [List.getElem?_toArray, List.getElem?_cons_succ, List.getElem?_cons_zero]; rfl)
      have hg1 := blk_lt G2.out
      go_simp
      refine (QC.out Wtx5x6x12x13 EQ.out).mono ?_
      rintro e Wtx5x6x12x13x16 ⟨vQ, rfl, hes, ⟨yQ, kQ, dQ, rfl, hle, _⟩, hfr, hb⟩
      have EK := Lib.hid (EK.out.below hb)
      have EV := Lib.hid (EV.out.below hb)
      have EQ := Lib.hid (EQ.out.below hb)
      have G2 := Lib.hid ((hb.block _ (blk_lt G2.out)).trans G2.out)
      have P5 := Lib.hid ((hb.block _ (blk_lt P5.out)).trans P5.out)
      have RK := Lib.hid (RK.out.below hb)
      have P12 := Lib.hid ((hb.block _ (blk_lt P12.out)).trans P12.out)
      have RV := Lib.hid (RV.out.below hb)
      have MQ := Lib.hid hle
      have FQ := Lib.hid (fresh_le hfr hg1)
      have RQ := Lib.hid hes
      clear hes hle hfr hg1
      go_wp2_with fail
      refine hK.out _ _ (⟨hS.1.trans (hb.mono hS.1.size), (hb.block _ (blk_lt hS.2.1)).trans hS.2.1, (hb.block _ (blk_lt hS.2.2)).trans hS.2.2⟩) (fun hHeld => ?_)
      clear hK K
      try simp only [Act.put, List.setIfInBounds_toArray, List.set_cons_succ, List.set_cons_zero]
      clear hS
      have hS := hHeld
      clear hHeld
      clear hb
      refine' wpAnyH_take (i := 17) ?h1x17tx5x6x12x13x16 ?hsx17tx5x6x12x13x16 ?hfx17tx5x6x12x13x16 ?hrx17tx5x6x12x13x16 ?hQx17tx5x6x12x13x16 (Or.inl ⟨?hwx17tx5x6x12x13x16, ?hyx17tx5x6x12x13x16⟩) hS ?restx17tx5x6x12x13x16
      case h1x17tx5x6x12x13x16 => (simp only [List.getElem?_toArray, List.getElem?_cons_succ, List.getElem?_cons_zero]; rfl)
      case hsx17tx5x6x12x13x16 => kernel_rfl
      case hfx17tx5x6x12x13x16 => kernel_rfl
      case hrx17tx5x6x12x13x16 => kernel_rfl
      case hQx17tx5x6x12x13x16 => exact fun _ _ _ h => h
      case hwx17tx5x6x12x13x16 => rfl
      case hyx17tx5x6x12x13x16 =>
        intro W hW
        have bb := b26f true yK yV yQ kK kV kQ dK dV dQ W
        go_simp
        try with_reducible rfl
      simp only [Act.put, List.setIfInBounds_toArray, List.set_cons_succ, List.set_cons_zero]
      refine wpAnyH_ready (rs := [18]) (by kernel_rfl) (by simp) ?_
      refine' (AllReadyH.cons ?hoc18tx5x6x12x13x16 (fun K hK => ?stc18tx5x6x12x13x16) AllReadyH.nil)
      case hoc18tx5x6x12x13x16 => (simp only [List.getElem?_toArray, List.getElem?_cons_succ, List.getElem?_cons_zero]; rfl)
      refine step_store_row rfl 26 (.tmp 6) (.tmp 46) rfl (w.heap.size + 2) #[.bool true, .slice yK kK dK, .slice yV kV dV, .slice yQ kQ dQ] rfl rfl 26 _ G2.out (size26' _ _ _ _) (by rw [Z4.out]; rfl) (by simp [Value.oneCell']) ?_
      have q2 := setRow_heap Wtx5x6x12x13x16 (w.heap.size + 2) _ #[.bool true, .slice yK kK dK, .slice yV kV dV, .slice yQ kQ dQ] 26 _ G2.out
      have rK := RK.out.setRow (cs := #[.bool true, .slice yK kK dK, .slice yV kV dV, .slice yQ kQ dQ]) FK.out (Nat.lt_succ_self _)
      have rV := RV.out.setRow (cs := #[.bool true, .slice yK kK dK, .slice yV kV dV, .slice yQ kQ dQ]) FV.out (Nat.lt_succ_self _)
      have rQ := RQ.out.setRow (cs := #[.bool true, .slice yK kK dK, .slice yV kV dV, .slice yQ kQ dQ]) FQ.out (Nat.lt_succ_self _)
      have hS2 := hS.1.trans (below_row (B := w.heap.size) Wtx5x6x12x13x16 #[.bool true, .slice yK kK dK, .slice yV kV dV, .slice yQ kQ dQ] (show w.heap.size ≤ w.heap.size + 2 by omega))
      have hS3 := (setRow_other Wtx5x6x12x13x16 (w.heap.size + 2) w.heap.size #[.bool true, .slice yK kK dK, .slice yV kV dV, .slice yQ kQ dQ] (by omega)).trans hS.2.1
      have hS4 := (setRow_other Wtx5x6x12x13x16 (w.heap.size + 2) (w.heap.size + 1) #[.bool true, .slice yK kK dK, .slice yV kV dV, .slice yQ kQ dQ] (by omega)).trans hS.2.2
      refine hK.out _ _ ⟨hS2, hS3, hS4⟩ (fun hHeld => ?_)
      clear hK K hHeld hS hS3 hS4
      simp only [Act.put]
      generalize Wtx5x6x12x13x16.setRow (w.heap.size + 2) #[.bool true, .slice yK kK dK, .slice yV kV dV, .slice yQ kQ dQ] = wf at *
      refine wpAnyH_done (by kernel_rfl) ?_ _
      try go_wp2_with fail
      exact bodyPost_ret (v := .agg #[.bool true, .slice yK kK dK, .slice yV kV dV, .slice yQ kQ dQ]) (results_cell_row Try.results22 _ _ (w.heap.size + 2) 26 _ (0, 0) _ rfl q2 Try.underlying26 rfl (size26' _ _ _ _)) rfl
        ⟨_, rfl, FIN.out _ _ _ _ rK rV rQ, ⟨true, yK, kK, dK, yV, kV, dV, yQ, kQ, dQ, rfl, ⟨MK.out, MV.out, MQ.out⟩, fresh_le FK.out (by omega), fresh_le FV.out (by omega), fresh_le FQ.out (by omega)⟩, hS2⟩
    case stc12tx5 =>
      refine step_bs1 rfl 23 1 (.tmp 40) rfl rfl (BS.out _) ?_
      have hb := (Below.refl Wtx5.heap.size Wtx5).alloc (Nat.le_refl _) (.cells CV 54)
      refine hK.out _ _ (⟨hS.1.trans (hb.mono hS.1.size), (hb.block _ (blk_lt hS.2.1)).trans hS.2.1, (hb.block _ (blk_lt hS.2.2)).trans hS.2.2⟩) (fun hHeld => ?_)
      clear hK K
      try simp only [Act.put, List.setIfInBounds_toArray, List.set_cons_succ, List.set_cons_zero]
      have qP12 := heap_alloc_new Wtx5 (.cells CV 54)
      have hp12 := hS.1.size
      have qEK := EK.out.below hb
      have qEV := EV.out.below hb
      have qEQ := EQ.out.below hb
      have qG2 := (hb.block _ (blk_lt G2.out)).trans G2.out
      have nep12p5 : Wtx5.heap.size ≠ p5 := by have := blk_lt P5.out; omega
      have qP5 := (hb.block _ (blk_lt P5.out)).trans P5.out
      clear hS
      have hS := hHeld
      clear hHeld
      clear hb
      clear EK EV EQ G2 P5
      generalize Wtx5.alloc (.cells CV 54) = Wtx5x12 at *
      generalize Wtx5.heap.size = p12 at *
      have EK := Lib.hid qEK
      have EV := Lib.hid qEV
      have EQ := Lib.hid qEQ
      have G2 := Lib.hid qG2
      have P5 := Lib.hid qP5
      have P12 := Lib.hid qP12
      clear qEK qEV qEQ qG2 qP5 qP12
      refine wpAnyH_ready (rs := [6]) (by kernel_rfl) (by simp) ?_
      refine' (AllReadyH.cons ?hoc6tx5x12 (fun K hK => ?stc6tx5x12) AllReadyH.nil)
      case hoc6tx5x12 => (simp only [List.getElem?_toArray, List.getElem?_cons_succ, List.getElem?_cons_zero]; rfl)
      have hg1 := blk_lt G2.out
      go_simp
      refine (KC.out Wtx5x12 _ P5.out EK.out).mono ?_
      rintro e Wtx5x12x6 ⟨vK, rfl, hes, ⟨yK, kK, dK, rfl, hle, _⟩, hfr, hb⟩
      have EK := Lib.hid (EK.out.below hb)
      have EV := Lib.hid (EV.out.below hb)
      have EQ := Lib.hid (EQ.out.below hb)
      have G2 := Lib.hid ((hb.block _ (blk_lt G2.out)).trans G2.out)
      have P5 := Lib.hid ((hb.block _ (blk_lt P5.out)).trans P5.out)
      have P12 := Lib.hid ((hb.block _ (blk_lt P12.out)).trans P12.out)
      have MK := Lib.hid hle
      have FK := Lib.hid (fresh_le hfr hg1)
      have RK := Lib.hid hes
      clear hes hle hfr hg1
      go_wp2_with fail
      refine hK.out _ _ (⟨hS.1.trans (hb.mono hS.1.size), (hb.block _ (blk_lt hS.2.1)).trans hS.2.1, (hb.block _ (blk_lt hS.2.2)).trans hS.2.2⟩) (fun hHeld => ?_)
      clear hK K
      try simp only [Act.put, List.setIfInBounds_toArray, List.set_cons_succ, List.set_cons_zero]
      clear hS
      have hS := hHeld
      clear hHeld
      clear hb
      refine wpAnyH_ready (rs := [13]) (by kernel_rfl) (by simp) ?_
      refine' (AllReadyH.cons ?hoc13tx5x12x6 (fun K hK => ?stc13tx5x12x6) AllReadyH.nil)
      case hoc13tx5x12x6 => (simp only [List.getElem?_toArray, List.getElem?_cons_succ, List.getElem?_cons_zero]; rfl)
      have hg1 := blk_lt G2.out
      go_simp
      refine (VC.out Wtx5x12x6 _ P12.out EV.out).mono ?_
      rintro e Wtx5x12x6x13 ⟨vV, rfl, hes, ⟨yV, kV, dV, rfl, hle, _⟩, hfr, hb⟩
      have EK := Lib.hid (EK.out.below hb)
      have EV := Lib.hid (EV.out.below hb)
      have EQ := Lib.hid (EQ.out.below hb)
      have G2 := Lib.hid ((hb.block _ (blk_lt G2.out)).trans G2.out)
      have P5 := Lib.hid ((hb.block _ (blk_lt P5.out)).trans P5.out)
      have P12 := Lib.hid ((hb.block _ (blk_lt P12.out)).trans P12.out)
      have RK := Lib.hid (RK.out.below hb)
      have MV := Lib.hid hle
      have FV := Lib.hid (fresh_le hfr hg1)
      have RV := Lib.hid hes
      clear hes hle hfr hg1
      go_wp2_with fail
      refine hK.out _ _ (⟨hS.1.trans (hb.mono hS.1.size), (hb.block _ (blk_lt hS.2.1)).trans hS.2.1, (hb.block _ (blk_lt hS.2.2)).trans hS.2.2⟩) (fun hHeld => ?_)
      clear hK K
      try simp only [Act.put, List.setIfInBounds_toArray, List.set_cons_succ, List.set_cons_zero]
      clear hS
      have hS := hHeld
      clear hHeld
      clear hb
      refine wpAnyH_ready (rs := [16]) (by kernel_rfl) (by simp) ?_
      refine' (AllReadyH.cons ?hoc16tx5x12x6x13 (fun K hK => ?stc16tx5x12x6x13) AllReadyH.nil)
      case hoc16tx5x12x6x13 => (simp only [List.getElem?_toArray, List.getElem?_cons_succ, List.getElem?_cons_zero]; rfl)
      have hg1 := blk_lt G2.out
      go_simp
      refine (QC.out Wtx5x12x6x13 EQ.out).mono ?_
      rintro e Wtx5x12x6x13x16 ⟨vQ, rfl, hes, ⟨yQ, kQ, dQ, rfl, hle, _⟩, hfr, hb⟩
      have EK := Lib.hid (EK.out.below hb)
      have EV := Lib.hid (EV.out.below hb)
      have EQ := Lib.hid (EQ.out.below hb)
      have G2 := Lib.hid ((hb.block _ (blk_lt G2.out)).trans G2.out)
      have P5 := Lib.hid ((hb.block _ (blk_lt P5.out)).trans P5.out)
      have P12 := Lib.hid ((hb.block _ (blk_lt P12.out)).trans P12.out)
      have RK := Lib.hid (RK.out.below hb)
      have RV := Lib.hid (RV.out.below hb)
      have MQ := Lib.hid hle
      have FQ := Lib.hid (fresh_le hfr hg1)
      have RQ := Lib.hid hes
      clear hes hle hfr hg1
      go_wp2_with fail
      refine hK.out _ _ (⟨hS.1.trans (hb.mono hS.1.size), (hb.block _ (blk_lt hS.2.1)).trans hS.2.1, (hb.block _ (blk_lt hS.2.2)).trans hS.2.2⟩) (fun hHeld => ?_)
      clear hK K
      try simp only [Act.put, List.setIfInBounds_toArray, List.set_cons_succ, List.set_cons_zero]
      clear hS
      have hS := hHeld
      clear hHeld
      clear hb
      refine' wpAnyH_take (i := 17) ?h1x17tx5x12x6x13x16 ?hsx17tx5x12x6x13x16 ?hfx17tx5x12x6x13x16 ?hrx17tx5x12x6x13x16 ?hQx17tx5x12x6x13x16 (Or.inl ⟨?hwx17tx5x12x6x13x16, ?hyx17tx5x12x6x13x16⟩) hS ?restx17tx5x12x6x13x16
      case h1x17tx5x12x6x13x16 => (simp only [List.getElem?_toArray, List.getElem?_cons_succ, List.getElem?_cons_zero]; rfl)
      case hsx17tx5x12x6x13x16 => kernel_rfl
      case hfx17tx5x12x6x13x16 => kernel_rfl
      case hrx17tx5x12x6x13x16 => kernel_rfl
      case hQx17tx5x12x6x13x16 => exact fun _ _ _ h => h
      case hwx17tx5x12x6x13x16 => rfl
      case hyx17tx5x12x6x13x16 =>
        intro W hW
        have bb := b26f true yK yV yQ kK kV kQ dK dV dQ W
        go_simp
        try with_reducible rfl
      simp only [Act.put, List.setIfInBounds_toArray, List.set_cons_succ, List.set_cons_zero]
      refine wpAnyH_ready (rs := [18]) (by kernel_rfl) (by simp) ?_
      refine' (AllReadyH.cons ?hoc18tx5x12x6x13x16 (fun K hK => ?stc18tx5x12x6x13x16) AllReadyH.nil)
      case hoc18tx5x12x6x13x16 => (simp only [List.getElem?_toArray, List.getElem?_cons_succ, List.getElem?_cons_zero]; rfl)
      refine step_store_row rfl 26 (.tmp 6) (.tmp 46) rfl (w.heap.size + 2) #[.bool true, .slice yK kK dK, .slice yV kV dV, .slice yQ kQ dQ] rfl rfl 26 _ G2.out (size26' _ _ _ _) (by rw [Z4.out]; rfl) (by simp [Value.oneCell']) ?_
      have q2 := setRow_heap Wtx5x12x6x13x16 (w.heap.size + 2) _ #[.bool true, .slice yK kK dK, .slice yV kV dV, .slice yQ kQ dQ] 26 _ G2.out
      have rK := RK.out.setRow (cs := #[.bool true, .slice yK kK dK, .slice yV kV dV, .slice yQ kQ dQ]) FK.out (Nat.lt_succ_self _)
      have rV := RV.out.setRow (cs := #[.bool true, .slice yK kK dK, .slice yV kV dV, .slice yQ kQ dQ]) FV.out (Nat.lt_succ_self _)
      have rQ := RQ.out.setRow (cs := #[.bool true, .slice yK kK dK, .slice yV kV dV, .slice yQ kQ dQ]) FQ.out (Nat.lt_succ_self _)
      have hS2 := hS.1.trans (below_row (B := w.heap.size) Wtx5x12x6x13x16 #[.bool true, .slice yK kK dK, .slice yV kV dV, .slice yQ kQ dQ] (show w.heap.size ≤ w.heap.size + 2 by omega))
      have hS3 := (setRow_other Wtx5x12x6x13x16 (w.heap.size + 2) w.heap.size #[.bool true, .slice yK kK dK, .slice yV kV dV, .slice yQ kQ dQ] (by omega)).trans hS.2.1
      have hS4 := (setRow_other Wtx5x12x6x13x16 (w.heap.size + 2) (w.heap.size + 1) #[.bool true, .slice yK kK dK, .slice yV kV dV, .slice yQ kQ dQ] (by omega)).trans hS.2.2
      refine hK.out _ _ ⟨hS2, hS3, hS4⟩ (fun hHeld => ?_)
      clear hK K hHeld hS hS3 hS4
      simp only [Act.put]
      generalize Wtx5x12x6x13x16.setRow (w.heap.size + 2) #[.bool true, .slice yK kK dK, .slice yV kV dV, .slice yQ kQ dQ] = wf at *
      refine wpAnyH_done (by kernel_rfl) ?_ _
      try go_wp2_with fail
      exact bodyPost_ret (v := .agg #[.bool true, .slice yK kK dK, .slice yV kV dV, .slice yQ kQ dQ]) (results_cell_row Try.results22 _ _ (w.heap.size + 2) 26 _ (0, 0) _ rfl q2 Try.underlying26 rfl (size26' _ _ _ _)) rfl
        ⟨_, rfl, FIN.out _ _ _ _ rK rV rQ, ⟨true, yK, kK, dK, yV, kV, dV, yQ, kQ, dQ, rfl, ⟨MK.out, MV.out, MQ.out⟩, fresh_le FK.out (by omega), fresh_le FV.out (by omega), fresh_le FQ.out (by omega)⟩, hS2⟩
  case stc12t =>
    refine step_bs1 rfl 23 1 (.tmp 40) rfl rfl (BS.out _) ?_
    have hb := (Below.refl Wts.heap.size Wts).alloc (Nat.le_refl _) (.cells CV 54)
    refine hK.out _ _ (⟨hS.1.trans (hb.mono hS.1.size), (hb.block _ (blk_lt hS.2.1)).trans hS.2.1, (hb.block _ (blk_lt hS.2.2)).trans hS.2.2⟩) (fun hHeld => ?_)
    clear hK K
    try simp only [Act.put, List.setIfInBounds_toArray, List.set_cons_succ, List.set_cons_zero]
    have qP12 := heap_alloc_new Wts (.cells CV 54)
    have hp12 := hS.1.size
    have qEK := EK.out.below hb
    have qEV := EV.out.below hb
    have qEQ := EQ.out.below hb
    have qG2 := (hb.block _ (blk_lt G2.out)).trans G2.out
    clear hS
    have hS := hHeld
    clear hHeld
    clear hb
    clear EK EV EQ G2
    generalize Wts.alloc (.cells CV 54) = Wtx12 at *
    generalize Wts.heap.size = p12 at *
    have EK := Lib.hid qEK
    have EV := Lib.hid qEV
    have EQ := Lib.hid qEQ
    have G2 := Lib.hid qG2
    have P12 := Lib.hid qP12
    clear qEK qEV qEQ qG2 qP12
    refine wpAnyH_ready (rs := [5]) (by kernel_rfl) (by simp) ?_
    refine' (AllReadyH.cons ?hoc5tx12 (fun K hK => ?stc5tx12) AllReadyH.nil)
    case hoc5tx12 => (simp only [List.getElem?_toArray, List.getElem?_cons_succ, List.getElem?_cons_zero]; rfl)
    refine step_bs1 rfl 22 1 (.tmp 33) rfl rfl (bs22k key _) ?_
    have hb := (Below.refl Wtx12.heap.size Wtx12).alloc (Nat.le_refl _) (.cells #[.int .u64 key] 52)
    refine hK.out _ _ (⟨hS.1.trans (hb.mono hS.1.size), (hb.block _ (blk_lt hS.2.1)).trans hS.2.1, (hb.block _ (blk_lt hS.2.2)).trans hS.2.2⟩) (fun hHeld => ?_)
    clear hK K
    try simp only [Act.put, List.setIfInBounds_toArray, List.set_cons_succ, List.set_cons_zero]
    have qP5 := heap_alloc_new Wtx12 (.cells #[.int .u64 key] 52)
    have hp5 := hS.1.size
    have qEK := EK.out.below hb
    have qEV := EV.out.below hb
    have qEQ := EQ.out.below hb
    have qG2 := (hb.block _ (blk_lt G2.out)).trans G2.out
    have nep5p12 : Wtx12.heap.size ≠ p12 := by have := blk_lt P12.out; omega
    have qP12 := (hb.block _ (blk_lt P12.out)).trans P12.out
    clear hS
    have hS := hHeld
    clear hHeld
    clear hb
    clear EK EV EQ G2 P12
    generalize Wtx12.alloc (.cells #[.int .u64 key] 52) = Wtx12x5 at *
    generalize Wtx12.heap.size = p5 at *
    have EK := Lib.hid qEK
    have EV := Lib.hid qEV
    have EQ := Lib.hid qEQ
    have G2 := Lib.hid qG2
    have P12 := Lib.hid qP12
    have P5 := Lib.hid qP5
    clear qEK qEV qEQ qG2 qP12 qP5
    refine wpAnyH_ready (rs := [6]) (by kernel_rfl) (by simp) ?_
    refine' (AllReadyH.cons ?hoc6tx12x5 (fun K hK => ?stc6tx12x5) AllReadyH.nil)
    case hoc6tx12x5 => (simp only [List.getElem?_toArray, List.getElem?_cons_succ, List.getElem?_cons_zero]; rfl)
    have hg1 := blk_lt G2.out
    go_simp
    refine (KC.out Wtx12x5 _ P5.out EK.out).mono ?_
    rintro e Wtx12x5x6 ⟨vK, rfl, hes, ⟨yK, kK, dK, rfl, hle, _⟩, hfr, hb⟩
    have EK := Lib.hid (EK.out.below hb)
    have EV := Lib.hid (EV.out.below hb)
    have EQ := Lib.hid (EQ.out.below hb)
    have G2 := Lib.hid ((hb.block _ (blk_lt G2.out)).trans G2.out)
    have P12 := Lib.hid ((hb.block _ (blk_lt P12.out)).trans P12.out)
    have P5 := Lib.hid ((hb.block _ (blk_lt P5.out)).trans P5.out)
    have MK := Lib.hid hle
    have FK := Lib.hid (fresh_le hfr hg1)
    have RK := Lib.hid hes
    clear hes hle hfr hg1
    go_wp2_with fail
    refine hK.out _ _ (⟨hS.1.trans (hb.mono hS.1.size), (hb.block _ (blk_lt hS.2.1)).trans hS.2.1, (hb.block _ (blk_lt hS.2.2)).trans hS.2.2⟩) (fun hHeld => ?_)
    clear hK K
    try simp only [Act.put, List.setIfInBounds_toArray, List.set_cons_succ, List.set_cons_zero]
    clear hS
    have hS := hHeld
    clear hHeld
    clear hb
    refine wpAnyH_ready (rs := [13]) (by kernel_rfl) (by simp) ?_
    refine' (AllReadyH.cons ?hoc13tx12x5x6 (fun K hK => ?stc13tx12x5x6) AllReadyH.nil)
    case hoc13tx12x5x6 => (simp only [List.getElem?_toArray, List.getElem?_cons_succ, List.getElem?_cons_zero]; rfl)
    have hg1 := blk_lt G2.out
    go_simp
    refine (VC.out Wtx12x5x6 _ P12.out EV.out).mono ?_
    rintro e Wtx12x5x6x13 ⟨vV, rfl, hes, ⟨yV, kV, dV, rfl, hle, _⟩, hfr, hb⟩
    have EK := Lib.hid (EK.out.below hb)
    have EV := Lib.hid (EV.out.below hb)
    have EQ := Lib.hid (EQ.out.below hb)
    have G2 := Lib.hid ((hb.block _ (blk_lt G2.out)).trans G2.out)
    have P12 := Lib.hid ((hb.block _ (blk_lt P12.out)).trans P12.out)
    have P5 := Lib.hid ((hb.block _ (blk_lt P5.out)).trans P5.out)
    have RK := Lib.hid (RK.out.below hb)
    have MV := Lib.hid hle
    have FV := Lib.hid (fresh_le hfr hg1)
    have RV := Lib.hid hes
    clear hes hle hfr hg1
    go_wp2_with fail
    refine hK.out _ _ (⟨hS.1.trans (hb.mono hS.1.size), (hb.block _ (blk_lt hS.2.1)).trans hS.2.1, (hb.block _ (blk_lt hS.2.2)).trans hS.2.2⟩) (fun hHeld => ?_)
    clear hK K
    try simp only [Act.put, List.setIfInBounds_toArray, List.set_cons_succ, List.set_cons_zero]
    clear hS
    have hS := hHeld
    clear hHeld
    clear hb
    refine wpAnyH_ready (rs := [16]) (by kernel_rfl) (by simp) ?_
    refine' (AllReadyH.cons ?hoc16tx12x5x6x13 (fun K hK => ?stc16tx12x5x6x13) AllReadyH.nil)
    case hoc16tx12x5x6x13 => (simp only [List.getElem?_toArray, List.getElem?_cons_succ, List.getElem?_cons_zero]; rfl)
    have hg1 := blk_lt G2.out
    go_simp
    refine (QC.out Wtx12x5x6x13 EQ.out).mono ?_
    rintro e Wtx12x5x6x13x16 ⟨vQ, rfl, hes, ⟨yQ, kQ, dQ, rfl, hle, _⟩, hfr, hb⟩
    have EK := Lib.hid (EK.out.below hb)
    have EV := Lib.hid (EV.out.below hb)
    have EQ := Lib.hid (EQ.out.below hb)
    have G2 := Lib.hid ((hb.block _ (blk_lt G2.out)).trans G2.out)
    have P12 := Lib.hid ((hb.block _ (blk_lt P12.out)).trans P12.out)
    have P5 := Lib.hid ((hb.block _ (blk_lt P5.out)).trans P5.out)
    have RK := Lib.hid (RK.out.below hb)
    have RV := Lib.hid (RV.out.below hb)
    have MQ := Lib.hid hle
    have FQ := Lib.hid (fresh_le hfr hg1)
    have RQ := Lib.hid hes
    clear hes hle hfr hg1
    go_wp2_with fail
    refine hK.out _ _ (⟨hS.1.trans (hb.mono hS.1.size), (hb.block _ (blk_lt hS.2.1)).trans hS.2.1, (hb.block _ (blk_lt hS.2.2)).trans hS.2.2⟩) (fun hHeld => ?_)
    clear hK K
    try simp only [Act.put, List.setIfInBounds_toArray, List.set_cons_succ, List.set_cons_zero]
    clear hS
    have hS := hHeld
    clear hHeld
    clear hb
    refine' wpAnyH_take (i := 17) ?h1x17tx12x5x6x13x16 ?hsx17tx12x5x6x13x16 ?hfx17tx12x5x6x13x16 ?hrx17tx12x5x6x13x16 ?hQx17tx12x5x6x13x16 (Or.inl ⟨?hwx17tx12x5x6x13x16, ?hyx17tx12x5x6x13x16⟩) hS ?restx17tx12x5x6x13x16
    case h1x17tx12x5x6x13x16 => (simp only [List.getElem?_toArray, List.getElem?_cons_succ, List.getElem?_cons_zero]; rfl)
    case hsx17tx12x5x6x13x16 => kernel_rfl
    case hfx17tx12x5x6x13x16 => kernel_rfl
    case hrx17tx12x5x6x13x16 => kernel_rfl
    case hQx17tx12x5x6x13x16 => exact fun _ _ _ h => h
    case hwx17tx12x5x6x13x16 => rfl
    case hyx17tx12x5x6x13x16 =>
      intro W hW
      have bb := b26f true yK yV yQ kK kV kQ dK dV dQ W
      go_simp
      try with_reducible rfl
    simp only [Act.put, List.setIfInBounds_toArray, List.set_cons_succ, List.set_cons_zero]
    refine wpAnyH_ready (rs := [18]) (by kernel_rfl) (by simp) ?_
    refine' (AllReadyH.cons ?hoc18tx12x5x6x13x16 (fun K hK => ?stc18tx12x5x6x13x16) AllReadyH.nil)
    case hoc18tx12x5x6x13x16 => (simp only [List.getElem?_toArray, List.getElem?_cons_succ, List.getElem?_cons_zero]; rfl)
    refine step_store_row rfl 26 (.tmp 6) (.tmp 46) rfl (w.heap.size + 2) #[.bool true, .slice yK kK dK, .slice yV kV dV, .slice yQ kQ dQ] rfl rfl 26 _ G2.out (size26' _ _ _ _) (by rw [Z4.out]; rfl) (by simp [Value.oneCell']) ?_
    have q2 := setRow_heap Wtx12x5x6x13x16 (w.heap.size + 2) _ #[.bool true, .slice yK kK dK, .slice yV kV dV, .slice yQ kQ dQ] 26 _ G2.out
    have rK := RK.out.setRow (cs := #[.bool true, .slice yK kK dK, .slice yV kV dV, .slice yQ kQ dQ]) FK.out (Nat.lt_succ_self _)
    have rV := RV.out.setRow (cs := #[.bool true, .slice yK kK dK, .slice yV kV dV, .slice yQ kQ dQ]) FV.out (Nat.lt_succ_self _)
    have rQ := RQ.out.setRow (cs := #[.bool true, .slice yK kK dK, .slice yV kV dV, .slice yQ kQ dQ]) FQ.out (Nat.lt_succ_self _)
    have hS2 := hS.1.trans (below_row (B := w.heap.size) Wtx12x5x6x13x16 #[.bool true, .slice yK kK dK, .slice yV kV dV, .slice yQ kQ dQ] (show w.heap.size ≤ w.heap.size + 2 by omega))
    have hS3 := (setRow_other Wtx12x5x6x13x16 (w.heap.size + 2) w.heap.size #[.bool true, .slice yK kK dK, .slice yV kV dV, .slice yQ kQ dQ] (by omega)).trans hS.2.1
    have hS4 := (setRow_other Wtx12x5x6x13x16 (w.heap.size + 2) (w.heap.size + 1) #[.bool true, .slice yK kK dK, .slice yV kV dV, .slice yQ kQ dQ] (by omega)).trans hS.2.2
    refine hK.out _ _ ⟨hS2, hS3, hS4⟩ (fun hHeld => ?_)
    clear hK K hHeld hS hS3 hS4
    simp only [Act.put]
    generalize Wtx12x5x6x13x16.setRow (w.heap.size + 2) #[.bool true, .slice yK kK dK, .slice yV kV dV, .slice yQ kQ dQ] = wf at *
    refine wpAnyH_done (by kernel_rfl) ?_ _
    try go_wp2_with fail
    exact bodyPost_ret (v := .agg #[.bool true, .slice yK kK dK, .slice yV kV dV, .slice yQ kQ dQ]) (results_cell_row Try.results22 _ _ (w.heap.size + 2) 26 _ (0, 0) _ rfl q2 Try.underlying26 rfl (size26' _ _ _ _)) rfl
      ⟨_, rfl, FIN.out _ _ _ _ rK rV rQ, ⟨true, yK, kK, dK, yV, kV, dV, yQ, kQ, dQ, rfl, ⟨MK.out, MV.out, MQ.out⟩, fresh_le FK.out (by omega), fresh_le FV.out (by omega), fresh_le FQ.out (by omega)⟩, hS2⟩
set_option maxRecDepth 100000 in
set_option maxHeartbeats 16000000 in
theorem put_false (A : Array Value) (n : NV) (key : Int) (z : List Int) (i : Nat) (w : World) (hv : ND w (.agg A) n) (hA : okA 0 A) (hs : small n) (hw : wholeB n = true) (hlf : n.leaf = true) (hr : risesB n.ks = true) (hF : FindP n.ks key i false)
    (hk : 0 ≤ key ∧ key ≤ 18446744073709551615) (hz0 : ∀ x ∈ z, 0 ≤ x ∧ x ≤ 255) (hz1 : z.length = 44) : Calls Try.prog 22 #[.agg A, .int .u64 key, .agg (val z).toArray] w (NewN w (putN n i (beh i false) key z)) := by
  have hz := z26
  obtain ⟨Z, hZ⟩ : ∃ Z : Array Value, Z = #[.bool false, .slice none 0 0, .slice none 0 0, .slice none 0 0] := ⟨_, rfl⟩
  rw [← hZ] at hz
  have Z4 : Hid (Z.size = 4) := by show _ = _; rw [hZ]; rfl
  clear hZ
  have IA := Lib.hid hA.info
  have IV := Lib.hid (i54 hz1)
  have BS := Lib.hid (bs23z z hz1)
  have WH : Hid (∀ W, ND W (.agg A) n → Calls Try.prog 37 #[.agg A] W fun e w' => e = .returned (.bool true) ∧ Below W.heap.size W w') := fun W h => by have := whole _ n W h; rw [hw] at this; exact this
  have FD : Hid (∀ W, ND W (.agg A) n → Calls Try.prog 23 #[.agg A, .int .u64 key] W fun e w' => e = .returned (.tuple #[.int .i64 (i : Int), .bool false]) ∧ Below W.heap.size W w') := fun W h => find _ n key i false W h hr hF
  have hil : i ≤ 300 := Nat.le_trans hF.1 hs.1
  have NR := Lib.hid hv
  obtain ⟨K, V, Q, e, h1, h2, h3, h4, h5⟩ := hv
  obtain ⟨lf, x1, n1, c1, x2, n2, c2, x3, n3, c3, hAe, ⟨m1, m2, m3⟩, f1, f2, f3⟩ := hA
  rw [hAe] at e
  simp only [Value.agg.injEq, Array.mk.injEq, List.cons.injEq, Value.bool.injEq, and_true] at e
  obtain ⟨hle, rfl, rfl, rfl⟩ := e
  rw [hlf] at hle
  subst hle
  obtain ⟨s1, s2, s3⟩ := hs
  have A0 : Hid (A[0]? = some (.bool true)) := by show _ = _; rw [hAe]; rfl
  have A1 : Hid (A[1]? = some (.slice x1 n1 c1)) := by show _ = _; rw [hAe]; rfl
  have A2 : Hid (A[2]? = some (.slice x2 n2 c2)) := by show _ = _; rw [hAe]; rfl
  have A3 : Hid (A[3]? = some (.slice x3 n3 c3)) := by show _ = _; rw [hAe]; rfl
  clear hAe f1 f2 f3
  have KC : Hid (∀ (W : World) (g : Nat), W.heap[g]? = some (.cells #[.int .u64 key] 52 (0, 0)) → ES key1 1 W (.slice x1 n1 c1) n.ks → Calls Try.prog 42 #[.slice x1 n1 c1, .int .i64 (i : Int), .int .i64 (i : Int), .slice (some ⟨g, 0, none⟩) 1 1] W (ConcP key1 1 W (putL n.ks i (beh i false) key))) := fun W g a b => splK n.ks [key] i (beh i false) x1 n1 c1 (some ⟨g, 0, none⟩) 1 1 W b m1 (es_one a rfl) s1 (by simp)
  have VC : Hid (∀ (W : World) (g : Nat), W.heap[g]? = some (.cells (val z).toArray 54 (0, 0)) → ES val 44 W (.slice x2 n2 c2) n.vs → Calls Try.prog 43 #[.slice x2 n2 c2, .int .i64 (i : Int), .int .i64 (i : Int), .slice (some ⟨g, 0, none⟩) 1 1] W (ConcP val 44 W (putL n.vs i (beh i false) z))) := fun W g a b => splV n.vs [z] i (beh i false) x2 n2 c2 (some ⟨g, 0, none⟩) 1 1 W b m2 (es_one a (by simp [val, hz1])) s2 (by simp)
  have QC : Hid (∀ W, ES kid 33 W (.slice x3 n3 c3) n.qs → Calls Try.prog 44 #[.slice x3 n3 c3, .int .i64 0, .int .i64 0, .slice none 0 0] W (ConcP kid 33 W (n.qs.take 0 ++ [] ++ n.qs.drop 0))) := fun W h => splQ n.qs [] 0 0 x3 n3 c3 none 0 0 W h m3 (ES.nil 0) s3 (by simp)
  have FIN : Hid (∀ (W : World) (K V Q : Value), ES key1 1 W K (putL n.ks i (beh i false) key) → ES val 44 W V (putL n.vs i (beh i false) z) → ES kid 33 W Q (n.qs.take 0 ++ [] ++ n.qs.drop 0) → ND W (.agg #[.bool true, K, V, Q]) (putN n i (beh i false) key z)) := fun W K V Q g1 g2 g3 =>
    ⟨K, V, Q, rfl, g1.ks (fun k hm => (mem_put hm).elim (h1.1 k) (fun e => by rw [e]; exact hk)), g2, g3, fun y hm => (mem_put hm).elim (h4 y) (fun e => by rw [e]; exact ⟨hz0, hz1⟩), fun p hp => h5 p (mem_cut hp)⟩
  obtain ⟨CV, hCV⟩ : ∃ CV : Array Value, CV = (val z).toArray := ⟨_, rfl⟩
  rw [← hCV] at IV BS VC ⊢
  obtain ⟨W1, hW1⟩ : ∃ W1, W1 = ((w.alloc (.cells A 26)).alloc (.cells CV 54)).alloc (.cells Z 26) := ⟨_, rfl⟩
  have b0 : Below w.heap.size w (w.alloc (.cells A 26)) := (Below.refl _ _).alloc (Nat.le_refl _) _
  have b1 : Below w.heap.size w ((w.alloc (.cells A 26)).alloc (.cells CV 54)) := b0.alloc (by simp) _
  have b2 : Below w.heap.size w W1 := by rw [hW1]; exact b1.alloc (by simp; omega) _
  have G0 : Hid (W1.heap[w.heap.size]? = some (.cells A 26 (0, 0))) := by show _ = _; rw [hW1, Below.heap_alloc _ _ _ (by simp; omega), Below.heap_alloc _ _ _ (by simp)]; exact heap_alloc_new w _
  have G1 : Hid (W1.heap[w.heap.size + 1]? = some (.cells CV 54 (0, 0))) := by
    show _ = _
    rw [hW1, Below.heap_alloc _ _ _ (by simp)]
    have := heap_alloc_new (w.alloc (.cells A 26)) (.cells CV 54)
    simpa using this
  have G2 : Hid (W1.heap[w.heap.size + 2]? = some (.cells Z 26 (0, 0))) := by
    show _ = _
    rw [hW1]
    have := heap_alloc_new ((w.alloc (.cells A 26)).alloc (.cells CV 54)) (.cells Z 26)
    simpa using this
  have EK := Lib.hid (h1.es.below b2)
  have EV := Lib.hid (h2.below b2)
  have EQ := Lib.hid (h3.below b2)
  have NR := Lib.hid (NR.out.below b2)
  have B1 := Lib.hid b2
  have HW1 := Lib.hid hW1
  have hil2 : (i : Int) ≤ 300 := by omega
  clear hW1 b0 b1 b2 h1 h2 h3 h4 h5 s1 s2 s3 m1 m2 m3 hw hr hF hk hz0 hz1 hCV hil hlf
  generalize putN n i (beh i false) key z = R at *
  generalize putL n.ks i (beh i false) key = LK at *
  generalize putL n.vs i (beh i false) z = LV at *
  generalize n.qs.take 0 ++ [] ++ n.qs.drop 0 = LQ at *
  go_enter Try.func22, Try.ntmps22
  go_upto_region 1 with (fail)
  rw [← HW1.out]
  clear hz
  have cc := (cell_row G0.out 0).trans A0.out
  go_wp2_with (refine wpList_load_met rfl 26 (.tmp 3) rfl w.heap.size rfl 26 A (0, 0) _ G0.out Try.underlying26 ⟨_, rfl⟩ IA.out ?_)
  refine (WH.out _ NR.out).mono ?_
  rintro e w2 ⟨rfl, hb⟩
  have B1 := Lib.hid (B1.out.trans (hb.mono B1.out.size))
  have G0 := Lib.hid ((hb.block _ (blk_lt G0.out)).trans G0.out)
  have G1 := Lib.hid ((hb.block _ (blk_lt G1.out)).trans G1.out)
  have G2 := Lib.hid ((hb.block _ (blk_lt G2.out)).trans G2.out)
  have EK := Lib.hid (EK.out.below hb)
  have EV := Lib.hid (EV.out.below hb)
  have EQ := Lib.hid (EQ.out.below hb)
  have NR := Lib.hid (NR.out.below hb)
  clear hb cc
  go_wp2_with (refine wpList_load_row rfl 26 (.tmp 3) rfl w.heap.size rfl 26 A (0, 0) _ G0.out Try.underlying26 rfl IA.out ?_)
  refine (FD.out _ NR.out).mono ?_
  rintro e w3 ⟨rfl, hb⟩
  have B1 := Lib.hid (B1.out.trans (hb.mono B1.out.size))
  have G0 := Lib.hid ((hb.block _ (blk_lt G0.out)).trans G0.out)
  have G1 := Lib.hid ((hb.block _ (blk_lt G1.out)).trans G1.out)
  have G2 := Lib.hid ((hb.block _ (blk_lt G2.out)).trans G2.out)
  have EK := Lib.hid (EK.out.below hb)
  have EV := Lib.hid (EV.out.below hb)
  have EQ := Lib.hid (EQ.out.below hb)
  have NR := Lib.hid (NR.out.below hb)
  clear hb NR
  go_wp2_with fail
  refine wp_region_held_drew (S := fun W => Below w.heap.size w W ∧ W.heap[w.heap.size]? = some (.cells A 26 (0, 0)) ∧ W.heap[(w.heap.size + 1)]? = some (.cells CV 54 (0, 0))) (by kernel_rfl) (⟨B1.out.drew, G0.out, G1.out⟩) (fun hS => ?_)
  have hb0 : Below w3.heap.size w3 w3.drew := (Below.refl _ _).drew
  have qEK := EK.out.below hb0
  have qEV := EV.out.below hb0
  have qEQ := EQ.out.below hb0
  have qG2 := (hb0.block _ (blk_lt G2.out)).trans G2.out
  clear hb0 EK EV EQ G2
  generalize w3.drew = Wts at hS qEK qEV qEQ qG2 ⊢
  have EK := Lib.hid qEK
  have EV := Lib.hid qEV
  have EQ := Lib.hid qEQ
  have G2 := Lib.hid qG2
  clear qEK qEV qEQ qG2
  refine' wpAnyH_take (i := 0) ?h1x0t ?hsx0t ?hfx0t ?hrx0t ?hQx0t (Or.inl ⟨?hwx0t, ?hyx0t⟩) hS ?restx0t
  case h1x0t => (simp only [List.getElem?_toArray, List.getElem?_cons_zero]; rfl)
  case hsx0t => kernel_rfl
  case hfx0t => kernel_rfl
  case hrx0t => kernel_rfl
  case hQx0t => exact fun _ _ _ h => h
  case hwx0t => rfl
  case hyx0t =>
    intro W hW
    go_simp
    try with_reducible rfl
  simp only [Act.put, List.setIfInBounds_toArray, List.set_cons_succ, List.set_cons_zero]
  refine' wpAnyH_take (i := 2) ?h1x2t ?hsx2t ?hfx2t ?hrx2t ?hQx2t (Or.inl ⟨?hwx2t, ?hyx2t⟩) hS ?restx2t
  case h1x2t => (simp only [List.getElem?_toArray, List.getElem?_cons_succ, List.getElem?_cons_zero]; rfl)
  case hsx2t => kernel_rfl
  case hfx2t => kernel_rfl
  case hrx2t => kernel_rfl
  case hQx2t => exact fun _ _ _ h => h
  case hwx2t => rfl
  case hyx2t =>
    intro W hW
    go_simp
    try with_reducible rfl
  simp only [Act.put, List.setIfInBounds_toArray, List.set_cons_succ, List.set_cons_zero]
  refine' wpAnyH_take (i := 3) ?h1x3t ?hsx3t ?hfx3t ?hrx3t ?hQx3t (Or.inl ⟨?hwx3t, ?hyx3t⟩) hS ?restx3t
  case h1x3t => (simp only [List.getElem?_toArray, List.getElem?_cons_succ, List.getElem?_cons_zero]; rfl)
  case hsx3t => kernel_rfl
  case hfx3t => kernel_rfl
  case hrx3t => kernel_rfl
  case hQx3t => exact fun _ _ _ h => h
  case hwx3t => rfl
  case hyx3t =>
    intro W hW
    go_simp
    try with_reducible rfl
  simp only [Act.put, List.setIfInBounds_toArray, List.set_cons_succ, List.set_cons_zero]
  refine' wpAnyH_take (i := 4) ?h1x4t ?hsx4t ?hfx4t ?hrx4t ?hQx4t (Or.inl ⟨?hwx4t, ?hyx4t⟩) hS ?restx4t
  case h1x4t => (simp only [List.getElem?_toArray, List.getElem?_cons_succ, List.getElem?_cons_zero]; rfl)
  case hsx4t => kernel_rfl
  case hfx4t => kernel_rfl
  case hrx4t => kernel_rfl
  case hQx4t => exact fun _ _ _ h => h
  case hwx4t => rfl
  case hyx4t =>
    intro W hW
    go_simp
    try with_reducible rfl
  simp only [Act.put, List.setIfInBounds_toArray, List.set_cons_succ, List.set_cons_zero]
  refine' wpAnyH_take (i := 7) ?h1x7t ?hsx7t ?hfx7t ?hrx7t ?hQx7t (Or.inl ⟨?hwx7t, ?hyx7t⟩) hS ?restx7t
  case h1x7t => (simp only [List.getElem?_toArray, List.getElem?_cons_succ, List.getElem?_cons_zero]; rfl)
  case hsx7t => kernel_rfl
  case hfx7t => kernel_rfl
  case hrx7t => kernel_rfl
  case hQx7t => exact fun _ _ _ h => h
  case hwx7t => rfl
  case hyx7t =>
    intro W hW
    go_simp
    try with_reducible rfl
  simp only [Act.put, List.setIfInBounds_toArray, List.set_cons_succ, List.set_cons_zero]
  refine' wpAnyH_take (i := 9) ?h1x9t ?hsx9t ?hfx9t ?hrx9t ?hQx9t (Or.inl ⟨?hwx9t, ?hyx9t⟩) hS ?restx9t
  case h1x9t => (simp only [List.getElem?_toArray, List.getElem?_cons_succ, List.getElem?_cons_zero]; rfl)
  case hsx9t => kernel_rfl
  case hfx9t => kernel_rfl
  case hrx9t => kernel_rfl
  case hQx9t => exact fun _ _ _ h => h
  case hwx9t => rfl
  case hyx9t =>
    intro W hW
    go_simp
    try with_reducible rfl
  simp only [Act.put, List.setIfInBounds_toArray, List.set_cons_succ, List.set_cons_zero]
  refine' wpAnyH_take (i := 10) ?h1x10t ?hsx10t ?hfx10t ?hrx10t ?hQx10t (Or.inl ⟨?hwx10t, ?hyx10t⟩) hS ?restx10t
  case h1x10t => (simp only [List.getElem?_toArray, List.getElem?_cons_succ, List.getElem?_cons_zero]; rfl)
  case hsx10t => kernel_rfl
  case hfx10t => kernel_rfl
  case hrx10t => kernel_rfl
  case hQx10t => exact fun _ _ _ h => h
  case hwx10t => rfl
  case hyx10t =>
    intro W hW
    go_simp
    try with_reducible rfl
  simp only [Act.put, List.setIfInBounds_toArray, List.set_cons_succ, List.set_cons_zero]
  refine' wpAnyH_take (i := 11) ?h1x11t ?hsx11t ?hfx11t ?hrx11t ?hQx11t (yieldsIf_load_at ?hwx11t 54 (.tmp 5) ?hopx11t (w.heap.size + 1) 0 rfl CV _ (fun W hW => range_row hW.2.2) Try.underlying54 rfl ?hix11t) hS ?restx11t
  case h1x11t => (simp only [List.getElem?_toArray, List.getElem?_cons_succ, List.getElem?_cons_zero]; rfl)
  case hopx11t => rfl
  case hsx11t => kernel_rfl
  case hfx11t => kernel_rfl
  case hrx11t => kernel_rfl
  case hQx11t => exact fun _ _ _ h => h
  case hwx11t => rfl
  case hix11t => exact IV.out
  simp only [Act.put, List.setIfInBounds_toArray, List.set_cons_succ, List.set_cons_zero]
  refine' wpAnyH_take (i := 14) ?h1x14t ?hsx14t ?hfx14t ?hrx14t ?hQx14t (Or.inl ⟨?hwx14t, ?hyx14t⟩) hS ?restx14t
  case h1x14t => (simp only [List.getElem?_toArray, List.getElem?_cons_succ, List.getElem?_cons_zero]; rfl)
  case hsx14t => kernel_rfl
  case hfx14t => kernel_rfl
  case hrx14t => kernel_rfl
  case hQx14t => exact fun _ _ _ h => h
  case hwx14t => rfl
  case hyx14t =>
    intro W hW
    go_simp
    try with_reducible rfl
  simp only [Act.put, List.setIfInBounds_toArray, List.set_cons_succ, List.set_cons_zero]
  refine' wpAnyH_take (i := 1) ?h1x1t ?hsx1t ?hfx1t ?hrx1t ?hQx1t (Or.inl ⟨?hwx1t, ?hyx1t⟩) hS ?restx1t
  case h1x1t => (simp only [List.getElem?_toArray, List.getElem?_cons_succ, List.getElem?_cons_zero]; rfl)
  case hsx1t => kernel_rfl
  case hfx1t => kernel_rfl
  case hrx1t => kernel_rfl
  case hQx1t => exact fun _ _ _ h => h
  case hwx1t => rfl
  case hyx1t =>
    intro W hW
    have cc := (cell_row hW.2.1 1).trans A1.out
    go_simp
    try with_reducible rfl
  simp only [Act.put, List.setIfInBounds_toArray, List.set_cons_succ, List.set_cons_zero]
  refine' wpAnyH_take (i := 8) ?h1x8t ?hsx8t ?hfx8t ?hrx8t ?hQx8t (Or.inl ⟨?hwx8t, ?hyx8t⟩) hS ?restx8t
  case h1x8t => (simp only [List.getElem?_toArray, List.getElem?_cons_succ, List.getElem?_cons_zero]; rfl)
  case hsx8t => kernel_rfl
  case hfx8t => kernel_rfl
  case hrx8t => kernel_rfl
  case hQx8t => exact fun _ _ _ h => h
  case hwx8t => rfl
  case hyx8t =>
    intro W hW
    have cc := (cell_row hW.2.1 2).trans A2.out
    go_simp
    try with_reducible rfl
  simp only [Act.put, List.setIfInBounds_toArray, List.set_cons_succ, List.set_cons_zero]
  refine' wpAnyH_take (i := 15) ?h1x15t ?hsx15t ?hfx15t ?hrx15t ?hQx15t (Or.inl ⟨?hwx15t, ?hyx15t⟩) hS ?restx15t
  case h1x15t => (simp only [List.getElem?_toArray, List.getElem?_cons_succ, List.getElem?_cons_zero]; rfl)
  case hsx15t => kernel_rfl
  case hfx15t => kernel_rfl
  case hrx15t => kernel_rfl
  case hQx15t => exact fun _ _ _ h => h
  case hwx15t => rfl
  case hyx15t =>
    intro W hW
    have cc := (cell_row hW.2.1 3).trans A3.out
    go_simp
    try with_reducible rfl
  simp only [Act.put, List.setIfInBounds_toArray, List.set_cons_succ, List.set_cons_zero]
  refine wpAnyH_ready (rs := [5, 12]) (by kernel_rfl) (by simp) ?_
  refine' (AllReadyH.cons ?hoc5t (fun K hK => ?stc5t) (AllReadyH.cons ?hoc12t (fun K hK => ?stc12t) AllReadyH.nil))
  case hoc5t => (simp only [List.getElem?_toArray, List.getElem?_cons_succ, List.getElem?_cons_zero]; rfl)
  case hoc12t => (simp only [List.getElem?_toArray, List.getElem?_cons_succ, List.getElem?_cons_zero]; rfl)
  case stc5t =>
    refine step_bs1 rfl 22 1 (.tmp 33) rfl rfl (bs22k key _) ?_
    have hb := (Below.refl Wts.heap.size Wts).alloc (Nat.le_refl _) (.cells #[.int .u64 key] 52)
    refine hK.out _ _ (⟨hS.1.trans (hb.mono hS.1.size), (hb.block _ (blk_lt hS.2.1)).trans hS.2.1, (hb.block _ (blk_lt hS.2.2)).trans hS.2.2⟩) (fun hHeld => ?_)
    clear hK K
    try simp only [Act.put, List.setIfInBounds_toArray, List.set_cons_succ, List.set_cons_zero]
    have qP5 := heap_alloc_new Wts (.cells #[.int .u64 key] 52)
    have hp5 := hS.1.size
    have qEK := EK.out.below hb
    have qEV := EV.out.below hb
    have qEQ := EQ.out.below hb
    have qG2 := (hb.block _ (blk_lt G2.out)).trans G2.out
    clear hS
    have hS := hHeld
    clear hHeld
    clear hb
    clear EK EV EQ G2
    generalize Wts.alloc (.cells #[.int .u64 key] 52) = Wtx5 at *
    generalize Wts.heap.size = p5 at *
    have EK := Lib.hid qEK
    have EV := Lib.hid qEV
    have EQ := Lib.hid qEQ
    have G2 := Lib.hid qG2
    have P5 := Lib.hid qP5
    clear qEK qEV qEQ qG2 qP5
    refine wpAnyH_ready (rs := [6, 12]) (by kernel_rfl) (by simp) ?_
    refine' (AllReadyH.cons ?hoc6tx5 (fun K hK => ?stc6tx5) (AllReadyH.cons ?hoc12tx5 (fun K hK => ?stc12tx5) AllReadyH.nil))
    case hoc6tx5 => (simp only [List.getElem?_toArray, List.getElem?_cons_succ, List.getElem?_cons_zero]; rfl)
    case hoc12tx5 => (simp only [List.getElem?_toArray, List.getElem?_cons_succ, List.getElem?_cons_zero]; rfl)
    case stc6tx5 =>
      have hg1 := blk_lt G2.out
      go_simp
      refine (KC.out Wtx5 _ P5.out EK.out).mono ?_
      rintro e Wtx5x6 ⟨vK, rfl, hes, ⟨yK, kK, dK, rfl, hle, _⟩, hfr, hb⟩
      have EK := Lib.hid (EK.out.below hb)
      have EV := Lib.hid (EV.out.below hb)
      have EQ := Lib.hid (EQ.out.below hb)
      have G2 := Lib.hid ((hb.block _ (blk_lt G2.out)).trans G2.out)
      have P5 := Lib.hid ((hb.block _ (blk_lt P5.out)).trans P5.out)
      have MK := Lib.hid hle
      have FK := Lib.hid (fresh_le hfr hg1)
      have RK := Lib.hid hes
      clear hes hle hfr hg1
      go_wp2_with fail
      refine hK.out _ _ (⟨hS.1.trans (hb.mono hS.1.size), (hb.block _ (blk_lt hS.2.1)).trans hS.2.1, (hb.block _ (blk_lt hS.2.2)).trans hS.2.2⟩) (fun hHeld => ?_)
      clear hK K
      try simp only [Act.put, List.setIfInBounds_toArray, List.set_cons_succ, List.set_cons_zero]
      clear hS
      have hS := hHeld
      clear hHeld
      clear hb
      refine wpAnyH_ready (rs := [12]) (by kernel_rfl) (by simp) ?_
      refine' (AllReadyH.cons ?hoc12tx5x6 (fun K hK => ?stc12tx5x6) AllReadyH.nil)
      case hoc12tx5x6 => (simp only [List.getElem?_toArray, List.getElem?_cons_succ, List.getElem?_cons_zero]; rfl)
      refine step_bs1 rfl 23 1 (.tmp 40) rfl rfl (BS.out _) ?_
      have hb := (Below.refl Wtx5x6.heap.size Wtx5x6).alloc (Nat.le_refl _) (.cells CV 54)
      refine hK.out _ _ (⟨hS.1.trans (hb.mono hS.1.size), (hb.block _ (blk_lt hS.2.1)).trans hS.2.1, (hb.block _ (blk_lt hS.2.2)).trans hS.2.2⟩) (fun hHeld => ?_)
      clear hK K
      try simp only [Act.put, List.setIfInBounds_toArray, List.set_cons_succ, List.set_cons_zero]
      have qP12 := heap_alloc_new Wtx5x6 (.cells CV 54)
      have hp12 := hS.1.size
      have qEK := EK.out.below hb
      have qEV := EV.out.below hb
      have qEQ := EQ.out.below hb
      have qG2 := (hb.block _ (blk_lt G2.out)).trans G2.out
      have nep12p5 : Wtx5x6.heap.size ≠ p5 := by have := blk_lt P5.out; omega
      have qP5 := (hb.block _ (blk_lt P5.out)).trans P5.out
      have qRK := RK.out.below hb
      clear hS
      have hS := hHeld
      clear hHeld
      clear hb
      clear EK EV EQ G2 P5 RK
      generalize Wtx5x6.alloc (.cells CV 54) = Wtx5x6x12 at *
      generalize Wtx5x6.heap.size = p12 at *
      have EK := Lib.hid qEK
      have EV := Lib.hid qEV
      have EQ := Lib.hid qEQ
      have G2 := Lib.hid qG2
      have P5 := Lib.hid qP5
      have RK := Lib.hid qRK
      have P12 := Lib.hid qP12
      clear qEK qEV qEQ qG2 qP5 qRK qP12
      refine wpAnyH_ready (rs := [13]) (by kernel_rfl) (by simp) ?_
      refine' (AllReadyH.cons ?hoc13tx5x6x12 (fun K hK => ?stc13tx5x6x12) AllReadyH.nil)
      case hoc13tx5x6x12 => (simp only [List.getElem?_toArray, List.getElem?_cons_succ, List.getElem?_cons_zero]; rfl)
      have hg1 := blk_lt G2.out
      go_simp
      refine (VC.out Wtx5x6x12 _ P12.out EV.out).mono ?_
      rintro e Wtx5x6x12x13 ⟨vV, rfl, hes, ⟨yV, kV, dV, rfl, hle, _⟩, hfr, hb⟩
      have EK := Lib.hid (EK.out.below hb)
      have EV := Lib.hid (EV.out.below hb)
      have EQ := Lib.hid (EQ.out.below hb)
      have G2 := Lib.hid ((hb.block _ (blk_lt G2.out)).trans G2.out)
      have P5 := Lib.hid ((hb.block _ (blk_lt P5.out)).trans P5.out)
      have RK := Lib.hid (RK.out.below hb)
      have P12 := Lib.hid ((hb.block _ (blk_lt P12.out)).trans P12.out)
      have MV := Lib.hid hle
      have FV := Lib.hid (fresh_le hfr hg1)
      have RV := Lib.hid hes
      clear hes hle hfr hg1
      go_wp2_with fail
      refine hK.out _ _ (⟨hS.1.trans (hb.mono hS.1.size), (hb.block _ (blk_lt hS.2.1)).trans hS.2.1, (hb.block _ (blk_lt hS.2.2)).trans hS.2.2⟩) (fun hHeld => ?_)
      clear hK K
      try simp only [Act.put, List.setIfInBounds_toArray, List.set_cons_succ, List.set_cons_zero]
      clear hS
      have hS := hHeld
      clear hHeld
      clear hb
      refine wpAnyH_ready (rs := [16]) (by kernel_rfl) (by simp) ?_
      refine' (AllReadyH.cons ?hoc16tx5x6x12x13 (fun K hK => ?stc16tx5x6x12x13) AllReadyH.nil)
      case hoc16tx5x6x12x13 => (simp only [List.getElem?_toArray, List.getElem?_cons_succ, List.getElem?_cons_zero]; rfl)
      have hg1 := blk_lt G2.out
      go_simp
      refine (QC.out Wtx5x6x12x13 EQ.out).mono ?_
      rintro e Wtx5x6x12x13x16 ⟨vQ, rfl, hes, ⟨yQ, kQ, dQ, rfl, hle, _⟩, hfr, hb⟩
      have EK := Lib.hid (EK.out.below hb)
      have EV := Lib.hid (EV.out.below hb)
      have EQ := Lib.hid (EQ.out.below hb)
      have G2 := Lib.hid ((hb.block _ (blk_lt G2.out)).trans G2.out)
      have P5 := Lib.hid ((hb.block _ (blk_lt P5.out)).trans P5.out)
      have RK := Lib.hid (RK.out.below hb)
      have P12 := Lib.hid ((hb.block _ (blk_lt P12.out)).trans P12.out)
      have RV := Lib.hid (RV.out.below hb)
      have MQ := Lib.hid hle
      have FQ := Lib.hid (fresh_le hfr hg1)
      have RQ := Lib.hid hes
      clear hes hle hfr hg1
      go_wp2_with fail
      refine hK.out _ _ (⟨hS.1.trans (hb.mono hS.1.size), (hb.block _ (blk_lt hS.2.1)).trans hS.2.1, (hb.block _ (blk_lt hS.2.2)).trans hS.2.2⟩) (fun hHeld => ?_)
      clear hK K
      try simp only [Act.put, List.setIfInBounds_toArray, List.set_cons_succ, List.set_cons_zero]
      clear hS
      have hS := hHeld
      clear hHeld
      clear hb
      refine' wpAnyH_take (i := 17) ?h1x17tx5x6x12x13x16 ?hsx17tx5x6x12x13x16 ?hfx17tx5x6x12x13x16 ?hrx17tx5x6x12x13x16 ?hQx17tx5x6x12x13x16 (Or.inl ⟨?hwx17tx5x6x12x13x16, ?hyx17tx5x6x12x13x16⟩) hS ?restx17tx5x6x12x13x16
      case h1x17tx5x6x12x13x16 => (simp only [List.getElem?_toArray, List.getElem?_cons_succ, List.getElem?_cons_zero]; rfl)
      case hsx17tx5x6x12x13x16 => kernel_rfl
      case hfx17tx5x6x12x13x16 => kernel_rfl
      case hrx17tx5x6x12x13x16 => kernel_rfl
      case hQx17tx5x6x12x13x16 => exact fun _ _ _ h => h
      case hwx17tx5x6x12x13x16 => rfl
      case hyx17tx5x6x12x13x16 =>
        intro W hW
        have bb := b26f true yK yV yQ kK kV kQ dK dV dQ W
        go_simp
        try with_reducible rfl
      simp only [Act.put, List.setIfInBounds_toArray, List.set_cons_succ, List.set_cons_zero]
      refine wpAnyH_ready (rs := [18]) (by kernel_rfl) (by simp) ?_
      refine' (AllReadyH.cons ?hoc18tx5x6x12x13x16 (fun K hK => ?stc18tx5x6x12x13x16) AllReadyH.nil)
      case hoc18tx5x6x12x13x16 => (simp only [List.getElem?_toArray, List.getElem?_cons_succ, List.getElem?_cons_zero]; rfl)
      refine step_store_row rfl 26 (.tmp 6) (.tmp 46) rfl (w.heap.size + 2) #[.bool true, .slice yK kK dK, .slice yV kV dV, .slice yQ kQ dQ] rfl rfl 26 _ G2.out (size26' _ _ _ _) (by rw [Z4.out]; rfl) (by simp [Value.oneCell']) ?_
      have q2 := setRow_heap Wtx5x6x12x13x16 (w.heap.size + 2) _ #[.bool true, .slice yK kK dK, .slice yV kV dV, .slice yQ kQ dQ] 26 _ G2.out
      have rK := RK.out.setRow (cs := #[.bool true, .slice yK kK dK, .slice yV kV dV, .slice yQ kQ dQ]) FK.out (Nat.lt_succ_self _)
      have rV := RV.out.setRow (cs := #[.bool true, .slice yK kK dK, .slice yV kV dV, .slice yQ kQ dQ]) FV.out (Nat.lt_succ_self _)
      have rQ := RQ.out.setRow (cs := #[.bool true, .slice yK kK dK, .slice yV kV dV, .slice yQ kQ dQ]) FQ.out (Nat.lt_succ_self _)
      have hS2 := hS.1.trans (below_row (B := w.heap.size) Wtx5x6x12x13x16 #[.bool true, .slice yK kK dK, .slice yV kV dV, .slice yQ kQ dQ] (show w.heap.size ≤ w.heap.size + 2 by omega))
      have hS3 := (setRow_other Wtx5x6x12x13x16 (w.heap.size + 2) w.heap.size #[.bool true, .slice yK kK dK, .slice yV kV dV, .slice yQ kQ dQ] (by omega)).trans hS.2.1
      have hS4 := (setRow_other Wtx5x6x12x13x16 (w.heap.size + 2) (w.heap.size + 1) #[.bool true, .slice yK kK dK, .slice yV kV dV, .slice yQ kQ dQ] (by omega)).trans hS.2.2
      refine hK.out _ _ ⟨hS2, hS3, hS4⟩ (fun hHeld => ?_)
      clear hK K hHeld hS hS3 hS4
      simp only [Act.put]
      generalize Wtx5x6x12x13x16.setRow (w.heap.size + 2) #[.bool true, .slice yK kK dK, .slice yV kV dV, .slice yQ kQ dQ] = wf at *
      refine wpAnyH_done (by kernel_rfl) ?_ _
      try go_wp2_with fail
      exact bodyPost_ret (v := .agg #[.bool true, .slice yK kK dK, .slice yV kV dV, .slice yQ kQ dQ]) (results_cell_row Try.results22 _ _ (w.heap.size + 2) 26 _ (0, 0) _ rfl q2 Try.underlying26 rfl (size26' _ _ _ _)) rfl
        ⟨_, rfl, FIN.out _ _ _ _ rK rV rQ, ⟨true, yK, kK, dK, yV, kV, dV, yQ, kQ, dQ, rfl, ⟨MK.out, MV.out, MQ.out⟩, fresh_le FK.out (by omega), fresh_le FV.out (by omega), fresh_le FQ.out (by omega)⟩, hS2⟩
    case stc12tx5 =>
      refine step_bs1 rfl 23 1 (.tmp 40) rfl rfl (BS.out _) ?_
      have hb := (Below.refl Wtx5.heap.size Wtx5).alloc (Nat.le_refl _) (.cells CV 54)
      refine hK.out _ _ (⟨hS.1.trans (hb.mono hS.1.size), (hb.block _ (blk_lt hS.2.1)).trans hS.2.1, (hb.block _ (blk_lt hS.2.2)).trans hS.2.2⟩) (fun hHeld => ?_)
      clear hK K
      try simp only [Act.put, List.setIfInBounds_toArray, List.set_cons_succ, List.set_cons_zero]
      have qP12 := heap_alloc_new Wtx5 (.cells CV 54)
      have hp12 := hS.1.size
      have qEK := EK.out.below hb
      have qEV := EV.out.below hb
      have qEQ := EQ.out.below hb
      have qG2 := (hb.block _ (blk_lt G2.out)).trans G2.out
      have nep12p5 : Wtx5.heap.size ≠ p5 := by have := blk_lt P5.out; omega
      have qP5 := (hb.block _ (blk_lt P5.out)).trans P5.out
      clear hS
      have hS := hHeld
      clear hHeld
      clear hb
      clear EK EV EQ G2 P5
      generalize Wtx5.alloc (.cells CV 54) = Wtx5x12 at *
      generalize Wtx5.heap.size = p12 at *
      have EK := Lib.hid qEK
      have EV := Lib.hid qEV
      have EQ := Lib.hid qEQ
      have G2 := Lib.hid qG2
      have P5 := Lib.hid qP5
      have P12 := Lib.hid qP12
      clear qEK qEV qEQ qG2 qP5 qP12
      refine wpAnyH_ready (rs := [6]) (by kernel_rfl) (by simp) ?_
      refine' (AllReadyH.cons ?hoc6tx5x12 (fun K hK => ?stc6tx5x12) AllReadyH.nil)
      case hoc6tx5x12 => (simp only [List.getElem?_toArray, List.getElem?_cons_succ, List.getElem?_cons_zero]; rfl)
      have hg1 := blk_lt G2.out
      go_simp
      refine (KC.out Wtx5x12 _ P5.out EK.out).mono ?_
      rintro e Wtx5x12x6 ⟨vK, rfl, hes, ⟨yK, kK, dK, rfl, hle, _⟩, hfr, hb⟩
      have EK := Lib.hid (EK.out.below hb)
      have EV := Lib.hid (EV.out.below hb)
      have EQ := Lib.hid (EQ.out.below hb)
      have G2 := Lib.hid ((hb.block _ (blk_lt G2.out)).trans G2.out)
      have P5 := Lib.hid ((hb.block _ (blk_lt P5.out)).trans P5.out)
      have P12 := Lib.hid ((hb.block _ (blk_lt P12.out)).trans P12.out)
      have MK := Lib.hid hle
      have FK := Lib.hid (fresh_le hfr hg1)
      have RK := Lib.hid hes
      clear hes hle hfr hg1
      go_wp2_with fail
      refine hK.out _ _ (⟨hS.1.trans (hb.mono hS.1.size), (hb.block _ (blk_lt hS.2.1)).trans hS.2.1, (hb.block _ (blk_lt hS.2.2)).trans hS.2.2⟩) (fun hHeld => ?_)
      clear hK K
      try simp only [Act.put, List.setIfInBounds_toArray, List.set_cons_succ, List.set_cons_zero]
      clear hS
      have hS := hHeld
      clear hHeld
      clear hb
      refine wpAnyH_ready (rs := [13]) (by kernel_rfl) (by simp) ?_
      refine' (AllReadyH.cons ?hoc13tx5x12x6 (fun K hK => ?stc13tx5x12x6) AllReadyH.nil)
      case hoc13tx5x12x6 => (simp only [List.getElem?_toArray, List.getElem?_cons_succ, List.getElem?_cons_zero]; rfl)
      have hg1 := blk_lt G2.out
      go_simp
      refine (VC.out Wtx5x12x6 _ P12.out EV.out).mono ?_
      rintro e Wtx5x12x6x13 ⟨vV, rfl, hes, ⟨yV, kV, dV, rfl, hle, _⟩, hfr, hb⟩
      have EK := Lib.hid (EK.out.below hb)
      have EV := Lib.hid (EV.out.below hb)
      have EQ := Lib.hid (EQ.out.below hb)
      have G2 := Lib.hid ((hb.block _ (blk_lt G2.out)).trans G2.out)
      have P5 := Lib.hid ((hb.block _ (blk_lt P5.out)).trans P5.out)
      have P12 := Lib.hid ((hb.block _ (blk_lt P12.out)).trans P12.out)
      have RK := Lib.hid (RK.out.below hb)
      have MV := Lib.hid hle
      have FV := Lib.hid (fresh_le hfr hg1)
      have RV := Lib.hid hes
      clear hes hle hfr hg1
      go_wp2_with fail
      refine hK.out _ _ (⟨hS.1.trans (hb.mono hS.1.size), (hb.block _ (blk_lt hS.2.1)).trans hS.2.1, (hb.block _ (blk_lt hS.2.2)).trans hS.2.2⟩) (fun hHeld => ?_)
      clear hK K
      try simp only [Act.put, List.setIfInBounds_toArray, List.set_cons_succ, List.set_cons_zero]
      clear hS
      have hS := hHeld
      clear hHeld
      clear hb
      refine wpAnyH_ready (rs := [16]) (by kernel_rfl) (by simp) ?_
      refine' (AllReadyH.cons ?hoc16tx5x12x6x13 (fun K hK => ?stc16tx5x12x6x13) AllReadyH.nil)
      case hoc16tx5x12x6x13 => (simp only [List.getElem?_toArray, List.getElem?_cons_succ, List.getElem?_cons_zero]; rfl)
      have hg1 := blk_lt G2.out
      go_simp
      refine (QC.out Wtx5x12x6x13 EQ.out).mono ?_
      rintro e Wtx5x12x6x13x16 ⟨vQ, rfl, hes, ⟨yQ, kQ, dQ, rfl, hle, _⟩, hfr, hb⟩
      have EK := Lib.hid (EK.out.below hb)
      have EV := Lib.hid (EV.out.below hb)
      have EQ := Lib.hid (EQ.out.below hb)
      have G2 := Lib.hid ((hb.block _ (blk_lt G2.out)).trans G2.out)
      have P5 := Lib.hid ((hb.block _ (blk_lt P5.out)).trans P5.out)
      have P12 := Lib.hid ((hb.block _ (blk_lt P12.out)).trans P12.out)
      have RK := Lib.hid (RK.out.below hb)
      have RV := Lib.hid (RV.out.below hb)
      have MQ := Lib.hid hle
      have FQ := Lib.hid (fresh_le hfr hg1)
      have RQ := Lib.hid hes
      clear hes hle hfr hg1
      go_wp2_with fail
      refine hK.out _ _ (⟨hS.1.trans (hb.mono hS.1.size), (hb.block _ (blk_lt hS.2.1)).trans hS.2.1, (hb.block _ (blk_lt hS.2.2)).trans hS.2.2⟩) (fun hHeld => ?_)
      clear hK K
      try simp only [Act.put, List.setIfInBounds_toArray, List.set_cons_succ, List.set_cons_zero]
      clear hS
      have hS := hHeld
      clear hHeld
      clear hb
      refine' wpAnyH_take (i := 17) ?h1x17tx5x12x6x13x16 ?hsx17tx5x12x6x13x16 ?hfx17tx5x12x6x13x16 ?hrx17tx5x12x6x13x16 ?hQx17tx5x12x6x13x16 (Or.inl ⟨?hwx17tx5x12x6x13x16, ?hyx17tx5x12x6x13x16⟩) hS ?restx17tx5x12x6x13x16
      case h1x17tx5x12x6x13x16 => (simp only [List.getElem?_toArray, List.getElem?_cons_succ, List.getElem?_cons_zero]; rfl)
      case hsx17tx5x12x6x13x16 => kernel_rfl
      case hfx17tx5x12x6x13x16 => kernel_rfl
      case hrx17tx5x12x6x13x16 => kernel_rfl
      case hQx17tx5x12x6x13x16 => exact fun _ _ _ h => h
      case hwx17tx5x12x6x13x16 => rfl
      case hyx17tx5x12x6x13x16 =>
        intro W hW
        have bb := b26f true yK yV yQ kK kV kQ dK dV dQ W
        go_simp
        try with_reducible rfl
      simp only [Act.put, List.setIfInBounds_toArray, List.set_cons_succ, List.set_cons_zero]
      refine wpAnyH_ready (rs := [18]) (by kernel_rfl) (by simp) ?_
      refine' (AllReadyH.cons ?hoc18tx5x12x6x13x16 (fun K hK => ?stc18tx5x12x6x13x16) AllReadyH.nil)
      case hoc18tx5x12x6x13x16 => (simp only [List.getElem?_toArray, List.getElem?_cons_succ, List.getElem?_cons_zero]; rfl)
      refine step_store_row rfl 26 (.tmp 6) (.tmp 46) rfl (w.heap.size + 2) #[.bool true, .slice yK kK dK, .slice yV kV dV, .slice yQ kQ dQ] rfl rfl 26 _ G2.out (size26' _ _ _ _) (by rw [Z4.out]; rfl) (by simp [Value.oneCell']) ?_
      have q2 := setRow_heap Wtx5x12x6x13x16 (w.heap.size + 2) _ #[.bool true, .slice yK kK dK, .slice yV kV dV, .slice yQ kQ dQ] 26 _ G2.out
      have rK := RK.out.setRow (cs := #[.bool true, .slice yK kK dK, .slice yV kV dV, .slice yQ kQ dQ]) FK.out (Nat.lt_succ_self _)
      have rV := RV.out.setRow (cs := #[.bool true, .slice yK kK dK, .slice yV kV dV, .slice yQ kQ dQ]) FV.out (Nat.lt_succ_self _)
      have rQ := RQ.out.setRow (cs := #[.bool true, .slice yK kK dK, .slice yV kV dV, .slice yQ kQ dQ]) FQ.out (Nat.lt_succ_self _)
      have hS2 := hS.1.trans (below_row (B := w.heap.size) Wtx5x12x6x13x16 #[.bool true, .slice yK kK dK, .slice yV kV dV, .slice yQ kQ dQ] (show w.heap.size ≤ w.heap.size + 2 by omega))
      have hS3 := (setRow_other Wtx5x12x6x13x16 (w.heap.size + 2) w.heap.size #[.bool true, .slice yK kK dK, .slice yV kV dV, .slice yQ kQ dQ] (by omega)).trans hS.2.1
      have hS4 := (setRow_other Wtx5x12x6x13x16 (w.heap.size + 2) (w.heap.size + 1) #[.bool true, .slice yK kK dK, .slice yV kV dV, .slice yQ kQ dQ] (by omega)).trans hS.2.2
      refine hK.out _ _ ⟨hS2, hS3, hS4⟩ (fun hHeld => ?_)
      clear hK K hHeld hS hS3 hS4
      simp only [Act.put]
      generalize Wtx5x12x6x13x16.setRow (w.heap.size + 2) #[.bool true, .slice yK kK dK, .slice yV kV dV, .slice yQ kQ dQ] = wf at *
      refine wpAnyH_done (by kernel_rfl) ?_ _
      try go_wp2_with fail
      exact bodyPost_ret (v := .agg #[.bool true, .slice yK kK dK, .slice yV kV dV, .slice yQ kQ dQ]) (results_cell_row Try.results22 _ _ (w.heap.size + 2) 26 _ (0, 0) _ rfl q2 Try.underlying26 rfl (size26' _ _ _ _)) rfl
        ⟨_, rfl, FIN.out _ _ _ _ rK rV rQ, ⟨true, yK, kK, dK, yV, kV, dV, yQ, kQ, dQ, rfl, ⟨MK.out, MV.out, MQ.out⟩, fresh_le FK.out (by omega), fresh_le FV.out (by omega), fresh_le FQ.out (by omega)⟩, hS2⟩
  case stc12t =>
    refine step_bs1 rfl 23 1 (.tmp 40) rfl rfl (BS.out _) ?_
    have hb := (Below.refl Wts.heap.size Wts).alloc (Nat.le_refl _) (.cells CV 54)
    refine hK.out _ _ (⟨hS.1.trans (hb.mono hS.1.size), (hb.block _ (blk_lt hS.2.1)).trans hS.2.1, (hb.block _ (blk_lt hS.2.2)).trans hS.2.2⟩) (fun hHeld => ?_)
    clear hK K
    try simp only [Act.put, List.setIfInBounds_toArray, List.set_cons_succ, List.set_cons_zero]
    have qP12 := heap_alloc_new Wts (.cells CV 54)
    have hp12 := hS.1.size
    have qEK := EK.out.below hb
    have qEV := EV.out.below hb
    have qEQ := EQ.out.below hb
    have qG2 := (hb.block _ (blk_lt G2.out)).trans G2.out
    clear hS
    have hS := hHeld
    clear hHeld
    clear hb
    clear EK EV EQ G2
    generalize Wts.alloc (.cells CV 54) = Wtx12 at *
    generalize Wts.heap.size = p12 at *
    have EK := Lib.hid qEK
    have EV := Lib.hid qEV
    have EQ := Lib.hid qEQ
    have G2 := Lib.hid qG2
    have P12 := Lib.hid qP12
    clear qEK qEV qEQ qG2 qP12
    refine wpAnyH_ready (rs := [5]) (by kernel_rfl) (by simp) ?_
    refine' (AllReadyH.cons ?hoc5tx12 (fun K hK => ?stc5tx12) AllReadyH.nil)
    case hoc5tx12 => (simp only [List.getElem?_toArray, List.getElem?_cons_succ, List.getElem?_cons_zero]; rfl)
    refine step_bs1 rfl 22 1 (.tmp 33) rfl rfl (bs22k key _) ?_
    have hb := (Below.refl Wtx12.heap.size Wtx12).alloc (Nat.le_refl _) (.cells #[.int .u64 key] 52)
    refine hK.out _ _ (⟨hS.1.trans (hb.mono hS.1.size), (hb.block _ (blk_lt hS.2.1)).trans hS.2.1, (hb.block _ (blk_lt hS.2.2)).trans hS.2.2⟩) (fun hHeld => ?_)
    clear hK K
    try simp only [Act.put, List.setIfInBounds_toArray, List.set_cons_succ, List.set_cons_zero]
    have qP5 := heap_alloc_new Wtx12 (.cells #[.int .u64 key] 52)
    have hp5 := hS.1.size
    have qEK := EK.out.below hb
    have qEV := EV.out.below hb
    have qEQ := EQ.out.below hb
    have qG2 := (hb.block _ (blk_lt G2.out)).trans G2.out
    have nep5p12 : Wtx12.heap.size ≠ p12 := by have := blk_lt P12.out; omega
    have qP12 := (hb.block _ (blk_lt P12.out)).trans P12.out
    clear hS
    have hS := hHeld
    clear hHeld
    clear hb
    clear EK EV EQ G2 P12
    generalize Wtx12.alloc (.cells #[.int .u64 key] 52) = Wtx12x5 at *
    generalize Wtx12.heap.size = p5 at *
    have EK := Lib.hid qEK
    have EV := Lib.hid qEV
    have EQ := Lib.hid qEQ
    have G2 := Lib.hid qG2
    have P12 := Lib.hid qP12
    have P5 := Lib.hid qP5
    clear qEK qEV qEQ qG2 qP12 qP5
    refine wpAnyH_ready (rs := [6]) (by kernel_rfl) (by simp) ?_
    refine' (AllReadyH.cons ?hoc6tx12x5 (fun K hK => ?stc6tx12x5) AllReadyH.nil)
    case hoc6tx12x5 => (simp only [List.getElem?_toArray, List.getElem?_cons_succ, List.getElem?_cons_zero]; rfl)
    have hg1 := blk_lt G2.out
    go_simp
    refine (KC.out Wtx12x5 _ P5.out EK.out).mono ?_
    rintro e Wtx12x5x6 ⟨vK, rfl, hes, ⟨yK, kK, dK, rfl, hle, _⟩, hfr, hb⟩
    have EK := Lib.hid (EK.out.below hb)
    have EV := Lib.hid (EV.out.below hb)
    have EQ := Lib.hid (EQ.out.below hb)
    have G2 := Lib.hid ((hb.block _ (blk_lt G2.out)).trans G2.out)
    have P12 := Lib.hid ((hb.block _ (blk_lt P12.out)).trans P12.out)
    have P5 := Lib.hid ((hb.block _ (blk_lt P5.out)).trans P5.out)
    have MK := Lib.hid hle
    have FK := Lib.hid (fresh_le hfr hg1)
    have RK := Lib.hid hes
    clear hes hle hfr hg1
    go_wp2_with fail
    refine hK.out _ _ (⟨hS.1.trans (hb.mono hS.1.size), (hb.block _ (blk_lt hS.2.1)).trans hS.2.1, (hb.block _ (blk_lt hS.2.2)).trans hS.2.2⟩) (fun hHeld => ?_)
    clear hK K
    try simp only [Act.put, List.setIfInBounds_toArray, List.set_cons_succ, List.set_cons_zero]
    clear hS
    have hS := hHeld
    clear hHeld
    clear hb
    refine wpAnyH_ready (rs := [13]) (by kernel_rfl) (by simp) ?_
    refine' (AllReadyH.cons ?hoc13tx12x5x6 (fun K hK => ?stc13tx12x5x6) AllReadyH.nil)
    case hoc13tx12x5x6 => (simp only [List.getElem?_toArray, List.getElem?_cons_succ, List.getElem?_cons_zero]; rfl)
    have hg1 := blk_lt G2.out
    go_simp
    refine (VC.out Wtx12x5x6 _ P12.out EV.out).mono ?_
    rintro e Wtx12x5x6x13 ⟨vV, rfl, hes, ⟨yV, kV, dV, rfl, hle, _⟩, hfr, hb⟩
    have EK := Lib.hid (EK.out.below hb)
    have EV := Lib.hid (EV.out.below hb)
    have EQ := Lib.hid (EQ.out.below hb)
    have G2 := Lib.hid ((hb.block _ (blk_lt G2.out)).trans G2.out)
    have P12 := Lib.hid ((hb.block _ (blk_lt P12.out)).trans P12.out)
    have P5 := Lib.hid ((hb.block _ (blk_lt P5.out)).trans P5.out)
    have RK := Lib.hid (RK.out.below hb)
    have MV := Lib.hid hle
    have FV := Lib.hid (fresh_le hfr hg1)
    have RV := Lib.hid hes
    clear hes hle hfr hg1
    go_wp2_with fail
    refine hK.out _ _ (⟨hS.1.trans (hb.mono hS.1.size), (hb.block _ (blk_lt hS.2.1)).trans hS.2.1, (hb.block _ (blk_lt hS.2.2)).trans hS.2.2⟩) (fun hHeld => ?_)
    clear hK K
    try simp only [Act.put, List.setIfInBounds_toArray, List.set_cons_succ, List.set_cons_zero]
    clear hS
    have hS := hHeld
    clear hHeld
    clear hb
    refine wpAnyH_ready (rs := [16]) (by kernel_rfl) (by simp) ?_
    refine' (AllReadyH.cons ?hoc16tx12x5x6x13 (fun K hK => ?stc16tx12x5x6x13) AllReadyH.nil)
    case hoc16tx12x5x6x13 => (simp only [List.getElem?_toArray, List.getElem?_cons_succ, List.getElem?_cons_zero]; rfl)
    have hg1 := blk_lt G2.out
    go_simp
    refine (QC.out Wtx12x5x6x13 EQ.out).mono ?_
    rintro e Wtx12x5x6x13x16 ⟨vQ, rfl, hes, ⟨yQ, kQ, dQ, rfl, hle, _⟩, hfr, hb⟩
    have EK := Lib.hid (EK.out.below hb)
    have EV := Lib.hid (EV.out.below hb)
    have EQ := Lib.hid (EQ.out.below hb)
    have G2 := Lib.hid ((hb.block _ (blk_lt G2.out)).trans G2.out)
    have P12 := Lib.hid ((hb.block _ (blk_lt P12.out)).trans P12.out)
    have P5 := Lib.hid ((hb.block _ (blk_lt P5.out)).trans P5.out)
    have RK := Lib.hid (RK.out.below hb)
    have RV := Lib.hid (RV.out.below hb)
    have MQ := Lib.hid hle
    have FQ := Lib.hid (fresh_le hfr hg1)
    have RQ := Lib.hid hes
    clear hes hle hfr hg1
    go_wp2_with fail
    refine hK.out _ _ (⟨hS.1.trans (hb.mono hS.1.size), (hb.block _ (blk_lt hS.2.1)).trans hS.2.1, (hb.block _ (blk_lt hS.2.2)).trans hS.2.2⟩) (fun hHeld => ?_)
    clear hK K
    try simp only [Act.put, List.setIfInBounds_toArray, List.set_cons_succ, List.set_cons_zero]
    clear hS
    have hS := hHeld
    clear hHeld
    clear hb
    refine' wpAnyH_take (i := 17) ?h1x17tx12x5x6x13x16 ?hsx17tx12x5x6x13x16 ?hfx17tx12x5x6x13x16 ?hrx17tx12x5x6x13x16 ?hQx17tx12x5x6x13x16 (Or.inl ⟨?hwx17tx12x5x6x13x16, ?hyx17tx12x5x6x13x16⟩) hS ?restx17tx12x5x6x13x16
    case h1x17tx12x5x6x13x16 => (simp only [List.getElem?_toArray, List.getElem?_cons_succ, List.getElem?_cons_zero]; rfl)
    case hsx17tx12x5x6x13x16 => kernel_rfl
    case hfx17tx12x5x6x13x16 => kernel_rfl
    case hrx17tx12x5x6x13x16 => kernel_rfl
    case hQx17tx12x5x6x13x16 => exact fun _ _ _ h => h
    case hwx17tx12x5x6x13x16 => rfl
    case hyx17tx12x5x6x13x16 =>
      intro W hW
      have bb := b26f true yK yV yQ kK kV kQ dK dV dQ W
      go_simp
      try with_reducible rfl
    simp only [Act.put, List.setIfInBounds_toArray, List.set_cons_succ, List.set_cons_zero]
    refine wpAnyH_ready (rs := [18]) (by kernel_rfl) (by simp) ?_
    refine' (AllReadyH.cons ?hoc18tx12x5x6x13x16 (fun K hK => ?stc18tx12x5x6x13x16) AllReadyH.nil)
    case hoc18tx12x5x6x13x16 => (simp only [List.getElem?_toArray, List.getElem?_cons_succ, List.getElem?_cons_zero]; rfl)
    refine step_store_row rfl 26 (.tmp 6) (.tmp 46) rfl (w.heap.size + 2) #[.bool true, .slice yK kK dK, .slice yV kV dV, .slice yQ kQ dQ] rfl rfl 26 _ G2.out (size26' _ _ _ _) (by rw [Z4.out]; rfl) (by simp [Value.oneCell']) ?_
    have q2 := setRow_heap Wtx12x5x6x13x16 (w.heap.size + 2) _ #[.bool true, .slice yK kK dK, .slice yV kV dV, .slice yQ kQ dQ] 26 _ G2.out
    have rK := RK.out.setRow (cs := #[.bool true, .slice yK kK dK, .slice yV kV dV, .slice yQ kQ dQ]) FK.out (Nat.lt_succ_self _)
    have rV := RV.out.setRow (cs := #[.bool true, .slice yK kK dK, .slice yV kV dV, .slice yQ kQ dQ]) FV.out (Nat.lt_succ_self _)
    have rQ := RQ.out.setRow (cs := #[.bool true, .slice yK kK dK, .slice yV kV dV, .slice yQ kQ dQ]) FQ.out (Nat.lt_succ_self _)
    have hS2 := hS.1.trans (below_row (B := w.heap.size) Wtx12x5x6x13x16 #[.bool true, .slice yK kK dK, .slice yV kV dV, .slice yQ kQ dQ] (show w.heap.size ≤ w.heap.size + 2 by omega))
    have hS3 := (setRow_other Wtx12x5x6x13x16 (w.heap.size + 2) w.heap.size #[.bool true, .slice yK kK dK, .slice yV kV dV, .slice yQ kQ dQ] (by omega)).trans hS.2.1
    have hS4 := (setRow_other Wtx12x5x6x13x16 (w.heap.size + 2) (w.heap.size + 1) #[.bool true, .slice yK kK dK, .slice yV kV dV, .slice yQ kQ dQ] (by omega)).trans hS.2.2
    refine hK.out _ _ ⟨hS2, hS3, hS4⟩ (fun hHeld => ?_)
    clear hK K hHeld hS hS3 hS4
    simp only [Act.put]
    generalize Wtx12x5x6x13x16.setRow (w.heap.size + 2) #[.bool true, .slice yK kK dK, .slice yV kV dV, .slice yQ kQ dQ] = wf at *
    refine wpAnyH_done (by kernel_rfl) ?_ _
    try go_wp2_with fail
    exact bodyPost_ret (v := .agg #[.bool true, .slice yK kK dK, .slice yV kV dV, .slice yQ kQ dQ]) (results_cell_row Try.results22 _ _ (w.heap.size + 2) 26 _ (0, 0) _ rfl q2 Try.underlying26 rfl (size26' _ _ _ _)) rfl
      ⟨_, rfl, FIN.out _ _ _ _ rK rV rQ, ⟨true, yK, kK, dK, yV, kV, dV, yQ, kQ, dQ, rfl, ⟨MK.out, MV.out, MQ.out⟩, fresh_le FK.out (by omega), fresh_le FV.out (by omega), fresh_le FQ.out (by omega)⟩, hS2⟩
end Go.Proofs.Ytnifaldgofmciaa
