/-
  Contract of the document's Read of a node. Condition: the slice reads as bytes.
-/
import Derived.Test.YtnifaldgofmciaaNfE
namespace Go.Proofs.Ytnifaldgofmciaa
open Go.RowKit
open oc (Byt Sees Own be nth numI)
/-- The parts that bytes tell. -/
def rdL (xs : List Int) (s m : Nat) : List (Int × List Int) := (List.range m).map fun i => (numI ((xs.drop (8 + (8 + s) * i)).take 8), (xs.drop (16 + (8 + s) * i)).take s)
def lfD (xs : List Int) : Bool := decide (nth xs 0 = 1)
def cntD (xs : List Int) : Nat := if lfD xs then min (nth xs 1).toNat 9 else (nth xs 1).toNat
def rdD (xs : List Int) : DN := ⟨lfD xs, rdL xs (szB (lfD xs)) (cntD xs)⟩
def fineD (xs : List Int) : Bool := decide (xs.length = 512) && (decide (1 ≤ nth xs 0 ∧ nth xs 0 ≤ 2) && decide (nth xs 1 ≤ 11))
/-- Are bytes a node's? -/
def isD (xs : List Int) : Bool := fineD xs && (rightD (rdD xs) && decide (wrD (rdD xs) = xs))
def nzD : DN := ⟨false, []⟩
def ReadDP (w : World) (xs : List Int) (e : Ending) (w' : World) : Prop := ∃ O, e = .returned (.tuple #[.agg O, .int .i64 (if isD xs = true then 0 else 3)]) ∧ DM w' (.agg O) (if isD xs = true then rdD xs else nzD) ∧ Below w.heap.size w w'
theorem rdL_at {xs : List Int} {s m i : Nat} (hi : i < m) : (rdL xs s m)[i]? = some (numI ((xs.drop (8 + (8 + s) * i)).take 8), (xs.drop (16 + (8 + s) * i)).take s) := by
  unfold rdL
  simp [hi]
theorem rdL_len (xs : List Int) (s m : Nat) : (rdL xs s m).length = m := by unfold rdL; simp
theorem numberB (v : Value) (xs : List Int) (hl : xs.length ≤ 8) (w : World) (h : Sees w v xs) : Calls Try.prog 33 #[v] w fun e w' => e = .returned (.int .u64 (numI xs)) ∧ Below w.heap.size w w' :=
  (oc.number v xs hl w h).mono fun e w' ⟨h1, h2⟩ => ⟨h1, by rw [← h2]; exact Below.refl _ _⟩
theorem sees_sub {w : World} {b o c : Nat} {xs : List Int} (h : Sees w (.slice (some ⟨b, o, none⟩) xs.length c) xs) (a k c' : Nat) (hk : a + k ≤ xs.length) (h0 : 0 < k) (hc : k ≤ c') (hm : c' ≤ maxLen) : Sees w (.slice (some ⟨b, o + a, none⟩) k c') ((xs.drop a).take k) := by
  have hl : ((xs.drop a).take k).length = k := by rw [List.length_take, List.length_drop]; omega
  have hcell : ∀ i, i < xs.length → w.cell? ⟨b, o + i, none⟩ = some (.int .u8 (nth xs i)) := fun i hi => Sees_cell h i hi
  refine ⟨(h.1.drop a).take k, .inr (.inr ⟨b, o + a, c', by rw [hl], fun e => by rw [e] at hl; simp at hl; omega, by rw [hl]; exact hc, hm, fun i hi => ?_⟩)⟩
  rw [hl] at hi
  rw [Nat.add_assoc, hcell (a + i) (by omega)]
  simp [nth, List.getD, List.getElem?_take_of_lt hi, List.getElem?_drop]
def RdR (w : World) (lf : Bool) (l : List (Int × List Int)) (i : Nat) (wr : World) : Prop :=
  ∃ (rows : List PR) (x : Option Addr) (c : Nat), rows.map PR.two = l.take i ∧ (∀ r ∈ rows, Sees w r.u r.b ∧ 0 ≤ r.k ∧ r.k ≤ 18446744073709551615) ∧ wr.heap[w.heap.size]? = some (.cells #[.bool false, .slice none 0 0] 32 (0, 0)) ∧
    wr.heap[w.heap.size + 1]? = some (.cells #[.bool lf, .slice x i c] 32 (0, 0)) ∧ wr.ownsRow (w.heap.size + 2) 61 2 (.slice x i c) i (rows.flatMap pc) ∧ Below w.heap.size w wr
theorem RdR.step {w : World} {lf : Bool} {l : List (Int × List Int)} {i : Nat} {wr W4 : World} {rows : List PR} {x : Option Addr} {c : Nat} {k : Int} {y : Option Addr} {n d g : Nat} {bs : List Int}
    (h1 : rows.map PR.two = l.take i) (hr : ∀ r ∈ rows, Sees w r.u r.b ∧ 0 ≤ r.k ∧ r.k ≤ 18446744073709551615) (g1 : wr.heap[w.heap.size]? = some (.cells #[.bool false, .slice none 0 0] 32 (0, 0)))
    (g2 : wr.heap[w.heap.size + 1]? = some (.cells #[.bool lf, .slice x i c] 32 (0, 0))) (ho : wr.ownsRow (w.heap.size + 2) 61 2 (.slice x i c) i (rows.flatMap pc)) (hb : Below w.heap.size w wr)
    (h4 : Below wr.heap.size wr W4) (gp : W4.heap[g]? = some (.cells #[.int .u64 k, .slice y n d] 61 (0, 0))) (hu : Sees w (.slice y n d) bs) (hk : 0 ≤ k ∧ k ≤ 18446744073709551615) (hl : l[i]? = some (k, bs)) (hi : i ≤ 100) :
    ∃ x' c' W5, (Builtin.append_ #[30, 30] 30 #[.slice x i c, .slice (some ⟨g, 0, none⟩) 1 1]).run Try.prog W4 = .ok (.slice x' (i + 1) c') W5 ∧ Below (w.heap.size + 2) W4 W5 ∧
      W5.heap[w.heap.size + 1]? = some (.cells #[.bool lf, .slice x i c] 32 (0, 0)) ∧ RdR w lf l (i + 1) (W5.setCell ⟨w.heap.size + 1, 1, none⟩ (.slice x' (i + 1) c')) := by
  have lt2 : w.heap.size + 1 < wr.heap.size := blk_lt g2
  have s4 := h4.size
  have grow4 : wr.grownBy W4 none := ⟨h4.os, h4.tape, h4.output, h4.size, fun k hk _ => h4.block k hk⟩
  have ho4 := ho.kept grow4 (by cases (Value.slice x i c).ownBlock <;> simp)
  obtain ⟨v', W5, hr5, ho5, hg5, hat⟩ := appRow Try.underlying30 info61 rfl (by decide) ho4 g [.int .u64 k, .slice y n d] rfl gp (by simp [Value.oneCell']) (by omega) (by decide) (by omega)
  have hv' : ∃ x' c', v' = .slice x' (i + 1) c' := by
    obtain ⟨_, ⟨_, h0⟩ | ⟨g, cap, cur, rfl, _⟩⟩ := ho5
    · omega
    · exact ⟨_, _, rfl⟩
  obtain ⟨x', c', rfl⟩ := hv'
  have lb : ∀ b, (Value.slice x i c).ownBlock = some b → w.heap.size + 2 ≤ b := fun b e => (ho.lt b e).1
  have b45 : Below (w.heap.size + 2) W4 W5 := (Below.refl _ _).grown hg5 (by omega) (fun b e => lb b e)
  have keep : ∀ b, b < w.heap.size + 2 → W5.heap[b]? = wr.heap[b]? := fun b hlt => by
    rw [b45.block b hlt]
    exact h4.block b (by omega)
  have g25 := (keep (w.heap.size + 1) (by omega)).trans g2
  refine ⟨x', c', W5, hr5, b45, g25, ?_⟩
  have hgs : W5.grownBy (W5.setCell ⟨w.heap.size + 1, 1, none⟩ (.slice x' (i + 1) c')) (some (w.heap.size + 1)) := by
    rw [setCell_eq_setRow _ _ _ _ _ _ _ g25]
    exact oc.grownBy_setRow _ _ _
  have b5 : Below w.heap.size w W5 := (hb.trans (h4.mono hb.size)).trans (b45.mono (by omega))
  refine ⟨rows ++ [⟨k, .slice y n d, bs⟩], x', c', ?_, ?_, ?_, ?_, ?_, ?_⟩
  · rw [List.map_append, h1, List.take_add_one, hl]
    rfl
  · intro r hm
    rcases List.mem_append.1 hm with hm | hm
    · exact hr r hm
    · have : r = ⟨k, .slice y n d, bs⟩ := by simpa using hm
      subst this
      exact ⟨hu, hk⟩
  · rw [hgs.block _ (by have := hg5.size; omega) (by simp), keep _ (by omega)]; exact g1
  · exact heap_setCell_same _ _ _ _ _ _ g25
  · have := ho5.kept hgs (.inr (fun e => by have := (ho5.lt _ e).1; omega))
    simpa [pc] using this
  · exact b5.grown hgs b5.size (fun b e => by cases e; omega)
theorem RdR.fin {w : World} {lf : Bool} {l : List (Int × List Int)} {i : Nat} {wr : World} (h : RdR w lf l i wr) (hi : l.length = i) (hm : i ≤ 100) :
    ∃ O, O.size = 2 ∧ (O.all (·.oneCell') = true) ∧ wr.heap[w.heap.size + 1]? = some (.cells O 32 (0, 0)) ∧ wr.heap[w.heap.size]? = some (.cells #[.bool false, .slice none 0 0] 32 (0, 0)) ∧
      (∀ W', Below wr.heap.size wr W' → DM (W'.setRow w.heap.size O) (.agg O) ⟨lf, l⟩ ∧ Below w.heap.size w (W'.setRow w.heap.size O)) ∧ DM wr (.agg O) ⟨lf, l⟩ ∧ Below w.heap.size w wr := by
  obtain ⟨rows, x, c, h1, hr, g1, g2, ho, hb⟩ := h
  rw [List.take_of_length_le (by omega)] at h1
  have hrl : rows.length = i := by rw [← hi, ← h1, List.length_map]
  have main : ∀ W', (W'.ownsRow (w.heap.size + 2) 61 2 (.slice x i c) i (rows.flatMap pc)) → Below w.heap.size w W' → DM W' (.agg #[.bool lf, .slice x i c]) ⟨lf, l⟩ := fun W' ho' hb' =>
    ⟨.slice x i c, rfl, rows, h1.symm, es_own ho' (fun _ _ => rfl) hrl (by omega), capOk_own ho', fun r hm => ⟨(hr r hm).1.below hb', (hr r hm).2⟩⟩
  refine ⟨#[.bool lf, .slice x i c], rfl, by simp [Value.oneCell'], g2, g1, fun W' hW' => ?_, main wr ho hb, hb⟩
  have grow : wr.grownBy W' none := ⟨hW'.os, hW'.tape, hW'.output, hW'.size, fun k hk _ => hW'.block k hk⟩
  have ho1 := ho.kept grow (by cases (Value.slice x i c).ownBlock <;> simp)
  have hgs : W'.grownBy (W'.setRow w.heap.size #[.bool lf, .slice x i c]) (some w.heap.size) := oc.grownBy_setRow _ _ _
  have ho2 := ho1.kept hgs (.inr (fun e => by have := (ho.lt _ e).1; omega))
  have hb2 := (hb.trans (hW'.mono hb.size)).trans (below_row (B := w.heap.size) W' #[.bool lf, .slice x i c] (Nat.le_refl _))
  exact ⟨main _ ho2 hb2, hb2⟩
/-- The run of a part of bytes cut out. -/
theorem sl_lh (b o n c l h : Nat) (hl : l ≤ h) (hh : h ≤ c) (hlc : l < c) (W : World) : (Instr.slice 27 (.slice (some ⟨b, o, none⟩) n c) (some (.int .i64 (l : Int))) (some (.int .i64 (h : Int))) none).run Try.prog W = .ok (.slice (some ⟨b, o + l, none⟩) (h - l) (c - l)) W := by
  rw [run_slice_lh W 27 (some ⟨b, o, none⟩) n c (by kernel_rfl) .i64 .i64 l h (by omega) (by omega) (by omega), show (sizeOf (Try.prog.elem 27)).run Try.prog W = .ok 1 W by kernel_rfl]
  simp only [Result.andThen, sliced, Int.toNat_natCast]
  rw [if_neg (by omega)]
  simp [add_plain]
theorem ndm_nz (w : World) : DM w (.agg #[.bool false, .slice none 0 0]) nzD := ⟨.slice none 0 0, rfl, ps_nil w⟩
set_option maxRecDepth 100000 in
theorem b32z (w : World) : (Instr.build 32 #[]).run Try.prog w = .ok (.agg #[.bool false, .slice none 0 0]) w := by kernel_rfl
set_option maxRecDepth 100000 in
theorem b61f (k : Int) (x : Option Addr) (n c : Nat) (w : World) : (Instr.build 61 #[(0, .int .u64 k), (1, .slice x n c)]).run Try.prog w = .ok (.agg #[.int .u64 k, .slice x n c]) w := by kernel_rfl
theorem fine_no {xs : List Int} (h : fineD xs = false) : isD xs = false := by unfold isD; rw [h]; rfl
set_option maxRecDepth 100000 in
set_option maxHeartbeats 8000000 in
theorem readD_len (v : Value) (xs : List Int) (w : World) (hv : Sees w v xs) (hc : xs.length ≠ 512) : Calls Try.prog 16 #[v] w (ReadDP w xs) := by
  have ND : Hid (isD xs = false) := fine_no (by unfold fineD; rw [decide_eq_false hc]; rfl)
  have hz := z32
  have bz := b32z
  obtain ⟨Z, hZ⟩ : ∃ Z : Array Value, Z = #[.bool false, .slice none 0 0] := ⟨_, rfl⟩
  rw [← hZ] at hz bz
  have BZ := Lib.hid bz
  have DZ : Hid (∀ W, DM W (.agg Z) nzD) := fun W => by rw [hZ]; exact ndm_nz W
  have IZ : Hid ((Try.prog.info? 32).map (·.size) = some Z.size) := by show _ = _; rw [hZ]; exact i32 _ _
  have OZ : Hid (Z.all (·.oneCell') = true) := by show _ = _; rw [hZ]; simp [Value.oneCell']
  obtain ⟨W1, hW1⟩ : ∃ W1, W1 = w.alloc (.cells Z 32) := ⟨_, rfl⟩
  have b1 : Below w.heap.size w W1 := by rw [hW1]; exact (Below.refl _ _).alloc (Nat.le_refl _) _
  have G1 : Hid (W1.heap[w.heap.size]? = some (.cells Z 32 (0, 0))) := by show _ = _; rw [hW1]; exact heap_alloc_new w _
  obtain ⟨xa, ca, rfl, h63⟩ := hv.form
  have hne : ((xs.length : Int) != 512) = true := by simp; omega
  generalize xs.length = n at hne ⊢
  clear hv hc h63
  have B2 := Lib.hid (b1.trans (below_row (B := w.heap.size) W1 Z (Nat.le_refl _)))
  have G2 := Lib.hid (setRow_heap W1 w.heap.size _ Z 32 _ G1.out)
  have HW1 := Lib.hid hW1
  clear hW1 b1 hZ bz
  go_enter Try.func16, Try.ntmps16
  go_upto_region 1 with (fail)
  rw [← HW1.out]
  go_upto_region 2 with (fail)
  clear hz
  go_wp2_with (first
    | (refine wpList_blank rfl 32 rfl (BZ.out _) ?_)
    | (refine wpList_store_row rfl 32 (.tmp 2) (.tmp 31) rfl w.heap.size Z rfl rfl 32 Z G1.out IZ.out rfl OZ.out ?_))
  exact bodyPost_ret (v := .tuple #[.agg Z, .int .i64 3]) (results_cell_tmp Try.results16 _ _ w.heap.size 32 Z (0, 0) _ rfl G2.out Try.underlying32 rfl IZ.out) rfl
    ⟨Z, by rw [ND.out]; rfl, by rw [ND.out]; exact DZ.out _, B2.out⟩
set_option maxRecDepth 100000 in
set_option maxHeartbeats 8000000 in
theorem readD_b0 (v : Value) (xs : List Int) (w : World) (hv : Sees w v xs) (hl : xs.length = 512) (hc : nth xs 0 < 1) : Calls Try.prog 16 #[v] w (ReadDP w xs) := by
  have ND : Hid (isD xs = false) := fine_no (by unfold fineD; simp; omega)
  have hz := z32
  have bz := b32z
  obtain ⟨Z, hZ⟩ : ∃ Z : Array Value, Z = #[.bool false, .slice none 0 0] := ⟨_, rfl⟩
  rw [← hZ] at hz bz
  have BZ := Lib.hid bz
  have DZ : Hid (∀ W, DM W (.agg Z) nzD) := fun W => by rw [hZ]; exact ndm_nz W
  have IZ : Hid ((Try.prog.info? 32).map (·.size) = some Z.size) := by show _ = _; rw [hZ]; exact i32 _ _
  have OZ : Hid (Z.all (·.oneCell') = true) := by show _ = _; rw [hZ]; simp [Value.oneCell']
  obtain ⟨W1, hW1⟩ : ∃ W1, W1 = w.alloc (.cells Z 32) := ⟨_, rfl⟩
  have b1 : Below w.heap.size w W1 := by rw [hW1]; exact (Below.refl _ _).alloc (Nat.le_refl _) _
  have G1 : Hid (W1.heap[w.heap.size]? = some (.cells Z 32 (0, 0))) := by show _ = _; rw [hW1]; exact heap_alloc_new w _
  obtain ⟨b, o, ca, rfl⟩ := Sees_block hv hl
  have hv1 := hv.below b1
  have c0 := Sees_cell hv1 0 (by omega)
  have c1 := Sees_cell hv1 1 (by omega)
  rw [Nat.add_zero] at c0
  obtain ⟨n0, hn0⟩ : ∃ n0, n0 = nth xs 0 := ⟨_, rfl⟩
  obtain ⟨n1, hn1⟩ : ∃ n1, n1 = nth xs 1 := ⟨_, rfl⟩
  have k0 := hv.1.nth 0
  have k1 := hv.1.nth 1
  rw [← hn0] at c0 k0
  rw [← hn1] at c1 k1
  have k00 := k0.1
  have k01 := k0.2
  have k10 := k1.1
  have k11 := k1.2
  have q0 : n0 < 1 := by omega
  clear hv hv1 hl hn0 hn1 k0 k1 hc
  have B2 := Lib.hid (b1.trans (below_row (B := w.heap.size) W1 Z (Nat.le_refl _)))
  have G2 := Lib.hid (setRow_heap W1 w.heap.size _ Z 32 _ G1.out)
  have HW1 := Lib.hid hW1
  clear hW1 b1 hZ bz
  go_enter Try.func16, Try.ntmps16
  go_upto_region 1 with (fail)
  rw [← HW1.out]
  go_upto_region 2 with (fail)
  clear hz
  go_wp2_with (first
    | (refine wpList_blank rfl 32 rfl (BZ.out _) ?_)
    | (refine wpList_store_row rfl 32 (.tmp 2) (.tmp 31) rfl w.heap.size Z rfl rfl 32 Z G1.out IZ.out rfl OZ.out ?_))
  exact bodyPost_ret (v := .tuple #[.agg Z, .int .i64 3]) (results_cell_tmp Try.results16 _ _ w.heap.size 32 Z (0, 0) _ rfl G2.out Try.underlying32 rfl IZ.out) rfl
    ⟨Z, by rw [ND.out]; rfl, by rw [ND.out]; exact DZ.out _, B2.out⟩
set_option maxRecDepth 100000 in
set_option maxHeartbeats 8000000 in
theorem readD_b2 (v : Value) (xs : List Int) (w : World) (hv : Sees w v xs) (hl : xs.length = 512) (hc : 2 < nth xs 0) : Calls Try.prog 16 #[v] w (ReadDP w xs) := by
  have ND : Hid (isD xs = false) := fine_no (by unfold fineD; simp; omega)
  have hz := z32
  have bz := b32z
  obtain ⟨Z, hZ⟩ : ∃ Z : Array Value, Z = #[.bool false, .slice none 0 0] := ⟨_, rfl⟩
  rw [← hZ] at hz bz
  have BZ := Lib.hid bz
  have DZ : Hid (∀ W, DM W (.agg Z) nzD) := fun W => by rw [hZ]; exact ndm_nz W
  have IZ : Hid ((Try.prog.info? 32).map (·.size) = some Z.size) := by show _ = _; rw [hZ]; exact i32 _ _
  have OZ : Hid (Z.all (·.oneCell') = true) := by show _ = _; rw [hZ]; simp [Value.oneCell']
  obtain ⟨W1, hW1⟩ : ∃ W1, W1 = w.alloc (.cells Z 32) := ⟨_, rfl⟩
  have b1 : Below w.heap.size w W1 := by rw [hW1]; exact (Below.refl _ _).alloc (Nat.le_refl _) _
  have G1 : Hid (W1.heap[w.heap.size]? = some (.cells Z 32 (0, 0))) := by show _ = _; rw [hW1]; exact heap_alloc_new w _
  obtain ⟨b, o, ca, rfl⟩ := Sees_block hv hl
  have hv1 := hv.below b1
  have c0 := Sees_cell hv1 0 (by omega)
  have c1 := Sees_cell hv1 1 (by omega)
  rw [Nat.add_zero] at c0
  obtain ⟨n0, hn0⟩ : ∃ n0, n0 = nth xs 0 := ⟨_, rfl⟩
  obtain ⟨n1, hn1⟩ : ∃ n1, n1 = nth xs 1 := ⟨_, rfl⟩
  have k0 := hv.1.nth 0
  have k1 := hv.1.nth 1
  rw [← hn0] at c0 k0
  rw [← hn1] at c1 k1
  have k00 := k0.1
  have k01 := k0.2
  have k10 := k1.1
  have k11 := k1.2
  have q0 : ¬ n0 < 1 := by omega
  have q1 : 2 < n0 := by omega
  clear hv hv1 hl hn0 hn1 k0 k1 hc
  have B2 := Lib.hid (b1.trans (below_row (B := w.heap.size) W1 Z (Nat.le_refl _)))
  have G2 := Lib.hid (setRow_heap W1 w.heap.size _ Z 32 _ G1.out)
  have HW1 := Lib.hid hW1
  clear hW1 b1 hZ bz
  go_enter Try.func16, Try.ntmps16
  go_upto_region 1 with (fail)
  rw [← HW1.out]
  go_upto_region 2 with (fail)
  clear hz
  go_wp2_with (first
    | (refine wpList_blank rfl 32 rfl (BZ.out _) ?_)
    | (refine wpList_store_row rfl 32 (.tmp 2) (.tmp 31) rfl w.heap.size Z rfl rfl 32 Z G1.out IZ.out rfl OZ.out ?_))
  exact bodyPost_ret (v := .tuple #[.agg Z, .int .i64 3]) (results_cell_tmp Try.results16 _ _ w.heap.size 32 Z (0, 0) _ rfl G2.out Try.underlying32 rfl IZ.out) rfl
    ⟨Z, by rw [ND.out]; rfl, by rw [ND.out]; exact DZ.out _, B2.out⟩
set_option maxRecDepth 100000 in
set_option maxHeartbeats 8000000 in
theorem readD_b11 (v : Value) (xs : List Int) (w : World) (hv : Sees w v xs) (hl : xs.length = 512) (h1 : 1 ≤ nth xs 0) (h2 : nth xs 0 ≤ 2) (hc : 11 < nth xs 1) : Calls Try.prog 16 #[v] w (ReadDP w xs) := by
  have ND : Hid (isD xs = false) := fine_no (by unfold fineD; simp; omega)
  have hz := z32
  have bz := b32z
  obtain ⟨Z, hZ⟩ : ∃ Z : Array Value, Z = #[.bool false, .slice none 0 0] := ⟨_, rfl⟩
  rw [← hZ] at hz bz
  have BZ := Lib.hid bz
  have DZ : Hid (∀ W, DM W (.agg Z) nzD) := fun W => by rw [hZ]; exact ndm_nz W
  have IZ : Hid ((Try.prog.info? 32).map (·.size) = some Z.size) := by show _ = _; rw [hZ]; exact i32 _ _
  have OZ : Hid (Z.all (·.oneCell') = true) := by show _ = _; rw [hZ]; simp [Value.oneCell']
  obtain ⟨W1, hW1⟩ : ∃ W1, W1 = w.alloc (.cells Z 32) := ⟨_, rfl⟩
  have b1 : Below w.heap.size w W1 := by rw [hW1]; exact (Below.refl _ _).alloc (Nat.le_refl _) _
  have G1 : Hid (W1.heap[w.heap.size]? = some (.cells Z 32 (0, 0))) := by show _ = _; rw [hW1]; exact heap_alloc_new w _
  obtain ⟨b, o, ca, rfl⟩ := Sees_block hv hl
  have hv1 := hv.below b1
  have c0 := Sees_cell hv1 0 (by omega)
  have c1 := Sees_cell hv1 1 (by omega)
  rw [Nat.add_zero] at c0
  obtain ⟨n0, hn0⟩ : ∃ n0, n0 = nth xs 0 := ⟨_, rfl⟩
  obtain ⟨n1, hn1⟩ : ∃ n1, n1 = nth xs 1 := ⟨_, rfl⟩
  have k0 := hv.1.nth 0
  have k1 := hv.1.nth 1
  rw [← hn0] at c0 k0
  rw [← hn1] at c1 k1
  have k00 := k0.1
  have k01 := k0.2
  have k10 := k1.1
  have k11 := k1.2
  have q0 : ¬ n0 < 1 := by omega
  have q1 : ¬ 2 < n0 := by omega
  have q2 : 11 < n1 := by omega
  clear hv hv1 hl hn0 hn1 k0 k1 hc h1 h2
  have B2 := Lib.hid (b1.trans (below_row (B := w.heap.size) W1 Z (Nat.le_refl _)))
  have G2 := Lib.hid (setRow_heap W1 w.heap.size _ Z 32 _ G1.out)
  have HW1 := Lib.hid hW1
  clear hW1 b1 hZ bz
  go_enter Try.func16, Try.ntmps16
  go_upto_region 1 with (fail)
  rw [← HW1.out]
  go_upto_region 2 with (fail)
  clear hz
  go_wp2_with (first
    | (refine wpList_blank rfl 32 rfl (BZ.out _) ?_)
    | (refine wpList_store_row rfl 32 (.tmp 2) (.tmp 31) rfl w.heap.size Z rfl rfl 32 Z G1.out IZ.out rfl OZ.out ?_))
  exact bodyPost_ret (v := .tuple #[.agg Z, .int .i64 3]) (results_cell_tmp Try.results16 _ _ w.heap.size 32 Z (0, 0) _ rfl G2.out Try.underlying32 rfl IZ.out) rfl
    ⟨Z, by rw [ND.out]; rfl, by rw [ND.out]; exact DZ.out _, B2.out⟩
set_option maxRecDepth 100000 in
set_option maxHeartbeats 16000000 in
theorem readD_true (v : Value) (xs : List Int) (w : World) (hv : Sees w v xs) (hl : xs.length = 512) (h0 : nth xs 0 = 1) (hc : nth xs 1 ≤ 11) : Calls Try.prog 16 #[v] w (ReadDP w xs) := by
  have hlf : lfD xs = true := by unfold lfD; rw [h0]; rfl
  have hfine : fineD xs = true := by unfold fineD; rw [decide_eq_true hl, h0, decide_eq_true hc]; rfl
  obtain ⟨b, o, ca, rfl⟩ := Sees_block hv hl
  have hcap : 512 ≤ ca ∧ ca ≤ maxLen := by
    obtain ⟨_, ⟨e, _⟩ | ⟨_, _, _, e, _⟩ | ⟨_, _, _, e, _, q1, q2, _⟩⟩ := hv
    · cases e
    · rw [e] at hl; simp at hl
    · injection e with e1 e2 e3; subst e3; exact ⟨by omega, q2⟩
  have k10 := (hv.1.nth 1).1
  obtain ⟨C, hC⟩ : ∃ C : Nat, nth xs 1 = (C : Int) := ⟨(nth xs 1).toNat, by omega⟩
  have hC11 : C ≤ 11 := by omega
  obtain ⟨m, hm⟩ : ∃ m, m = min C 9 := ⟨_, rfl⟩
  have RDX : Hid (rdD xs = ⟨true, rdL xs 44 m⟩) := by show _ = _; unfold rdD cntD; rw [hlf, hC, hm]; rfl
  have ISD : Hid (isD xs = (rightD (rdD xs) && decide (wrD (rdD xs) = xs))) := by show _ = _; unfold isD; rw [hfine]; rfl
  have PA : Hid (∀ i a, i < m → a = 8 + 52 * i → (rdL xs 44 m)[i]? = some (numI ((xs.drop a).take 8), (xs.drop (a + 8)).take 44)) := fun i a hi ha => by
    rw [rdL_at hi, ha, show 16 + (8 + 44) * i = 8 + 52 * i + 8 by omega]
  have PL := Lib.hid (rdL_len xs 44 m)
  have KB : Hid (∀ a, a + 8 ≤ 512 → 0 ≤ numI ((xs.drop a).take 8) ∧ numI ((xs.drop a).take 8) ≤ 18446744073709551615) := fun a ha => by
    have := oc.numI_part xs a 8 hv.1 (by omega)
    omega
  have SK : Hid (∀ a, a + 52 ≤ 512 → Sees w (.slice (some ⟨b, o + a, none⟩) 8 (ca - a)) ((xs.drop a).take 8) ∧ Sees w (.slice (some ⟨b, o + (a + 8), none⟩) 44 (ca - (a + 8))) ((xs.drop (a + 8)).take 44) ∧ ((xs.drop a).take 8).length ≤ 8) := fun a ha => by
    rw [← hl] at hv
    refine ⟨sees_sub hv a 8 _ (by omega) (by decide) (by omega) (by omega), sees_sub hv (a + 8) 44 _ (by omega) (by decide) (by omega) (by omega), by rw [List.length_take]; omega⟩
  have hca : (ca : Int) ≤ 9223372036854775807 := by have := hcap.2; unfold maxLen at this; omega
  have hca2 : 512 ≤ ca := hcap.1
  have HSEE := Lib.hid hv
  have HBY := Lib.hid hv.1
  have hz := z32
  have bz := b32z
  obtain ⟨Z, hZ⟩ : ∃ Z : Array Value, Z = #[.bool false, .slice none 0 0] := ⟨_, rfl⟩
  rw [← hZ] at hz bz
  have BZ := Lib.hid bz
  have ZE := Lib.hid hZ
  have DZ : Hid (∀ W, DM W (.agg Z) nzD) := fun W => by rw [hZ]; exact ndm_nz W
  have IZ : Hid ((Try.prog.info? 32).map (·.size) = some Z.size) := by show _ = _; rw [hZ]; exact i32 _ _
  have OZ : Hid (Z.all (·.oneCell') = true) := by show _ = _; rw [hZ]; simp [Value.oneCell']
  obtain ⟨O, hO⟩ : ∃ O : Array Value, O = #[.bool true, .slice none 0 0] := ⟨_, rfl⟩
  have BU : Hid (∀ W, (Instr.build 32 #[(0, .bool true)]).run Try.prog W = .ok (.agg O) W) := by show ∀ _, _; rw [hO]; exact b32 true
  have IO : Hid ((Try.prog.info? 32).map (·.size) = some O.size) := by show _ = _; rw [hO]; exact i32 _ _
  have SO : Hid (Z.size = O.size) := by show _ = _; rw [hZ, hO]; try rfl
  have OO : Hid (O.all (·.oneCell') = true) := by show _ = _; rw [hO]; simp [Value.oneCell']
  obtain ⟨W0, hW0⟩ : ∃ W0, W0 = w.alloc (.cells Z 32) := ⟨_, rfl⟩
  have b0 : Below w.heap.size w W0 := by rw [hW0]; exact (Below.refl _ _).alloc (Nat.le_refl _) _
  have hsz : W0.heap.size = w.heap.size + 1 := by rw [hW0]; simp
  have G0 : W0.heap[w.heap.size]? = some (.cells Z 32 (0, 0)) := by rw [hW0]; exact heap_alloc_new w _
  obtain ⟨W1, hW1⟩ : ∃ W1, W1 = W0.alloc (.cells O 32) := ⟨_, rfl⟩
  have al : Below W0.heap.size W0 W1 := by rw [hW1]; exact (Below.refl _ _).alloc (Nat.le_refl _) _
  have GN := Lib.hid (heap_alloc_new W0 (.cells Z 32))
  have RW : Hid ((W0.alloc (.cells Z 32)).setRow W0.heap.size O = W1) := by show _ = _; rw [hW1]; exact alloc_setRowT W0 Z O 32 _ rfl
  have g1 : W1.heap[w.heap.size + 1]? = some (.cells O 32 (0, 0)) := by rw [hW1, ← hsz]; exact heap_alloc_new W0 _
  have g0 := (al.block _ (blk_lt G0)).trans G0
  have b1 := b0.trans (al.mono b0.size)
  have START : Hid (RdR w true (rdL xs 44 m) 0 W1) := by
    refine ⟨[], none, 0, by simp, fun r hr => (by cases hr), by rw [← hZ]; exact g0, by rw [← hO]; exact g1, World.ownsRow_nil _ _ _ _, b1⟩
  have GB1 := Lib.hid g1
  have HW0 := Lib.hid hW0
  have HSZ := Lib.hid hsz
  have hv0 := hv.below b0
  have c0 := Sees_cell hv0 0 (by omega)
  have c1 := Sees_cell hv0 1 (by omega)
  rw [Nat.add_zero, h0] at c0
  rw [hC] at c1
  have CB : Hid (CellF w b (o + 1) (.int .u8 (C : Int))) := by
    have h := Sees_cell hv 1 (by omega)
    rw [hC] at h
    refine ⟨?_, h⟩
    refine Decidable.byContradiction fun hb => ?_
    have : w.heap[b]? = none := Array.getElem?_eq_none (by omega)
    simp [World.cell?, this] at h
  have hCi : (C : Int) ≤ 11 := by omega
  have hCn : ¬ (11 < (C : Int)) := by omega
  have hCn2 : decide ((11 : Int) < (C : Int)) = false := decide_eq_false hCn
  have hCw : IntKind.i64.wrap (C : Int) = (C : Int) := IntWalk.i64_in _ (by omega)
  have HM := Lib.hid hm
  have B1 := Lib.hid b1
  have O0 : Hid (O[0]? = some (.bool true)) := by show _ = _; rw [hO]; rfl
  clear hW0 hW1 b0 hsz G0 g0 g1 al b1 hO hZ bz hv hv0 hlf hfine hcap k10 hC h0 hc hm
  go_enter Try.func16, Try.ntmps16
  go_upto_region 1 with (fail)
  rw [← HW0.out]
  go_upto_region 3 with (fail)
  go_upto_region 4 with (first
    | (refine wpList_build1 rfl 32 0 (.tmp 35) rfl (u := .bool true) rfl (BU.out _) ?_)
    | (refine wpList_store_row rfl 32 (.tmp 4) (.tmp 36) rfl W0.heap.size O rfl rfl 32 Z GN.out IO.out SO.out OO.out ?_))
  rw [RW.out]
  try simp only [Act.put]
  rw [HSZ.out]
  clear c0 c1 hz BU GN RW
  have cc := (cell_row GB1.out 0).trans O0.out
  go_wp2_with fail
  refine (size_true W1).mono ?_
  rintro e W2 ⟨rfl, hb⟩
  have START2 : Hid (RdR w true (rdL xs 44 m) 0 W2) := by
    obtain ⟨rows, x, c, r1, r2, r3, r4, r5, r6⟩ := START.out
    have grow : W1.grownBy W2 none := ⟨hb.os, hb.tape, hb.output, hb.size, fun k hk _ => hb.block k hk⟩
    exact ⟨rows, x, c, r1, r2, (hb.block _ (blk_lt r3)).trans r3, (hb.block _ (blk_lt r4)).trans r4, r5.kept grow (by cases (Value.slice x 0 c).ownBlock <;> simp), r6.trans (hb.mono r6.size)⟩
  clear cc hb START
  go_upto_region 5 with (fail)
  go_wp2_with fail
  refine (show Code.wp _ _ _ _ _ from ?_)
  go_loopw [6] (fun v6 wr => ∃ i : Nat, i ≤ m ∧ v6 = .int .i64 (i : Int) ∧ RdR w true (rdL xs 44 m) i wr) (fun v6 _ => m - (intOf v6).toNat)
  case atStart => exact ⟨0, by omega, rfl, START2.out⟩
  case round =>
    obtain ⟨i, hi, rfl, hrel⟩ := hrel
    have HR := Lib.hid hrel
    obtain ⟨rows, x, c, r1, r2, r3, r4, r5, r6⟩ := hrel
    have cB := (CB.out.below r6).2
    have HBW := Lib.hid r6
    have R1 := Lib.hid r1
    have R2 := Lib.hid r2
    have G1 := Lib.hid r3
    have G2 := Lib.hid r4
    have HO := Lib.hid r5
    clear r1 r2 r3 r4 r5 r6
    by_cases hlt : i < m
    · have hiC : i < C := by have := HM.out; omega
      have hii : (i : Int) < (C : Int) := by omega
      have hfit : 8 + 52 * (i : Int) + 52 ≤ 512 := by have := HM.out; omega
      have hi11 : (i : Int) ≤ 11 := by omega
      have HLT := Lib.hid hlt
      have HI100 : Hid (i ≤ 100) := by have := HM.out; show _ ≤ _; omega
      have hw1 : IntKind.i64.wrap (52 * (i : Int)) = 52 * (i : Int) := IntWalk.i64_in _ (by omega)
      have hw2 : IntKind.i64.wrap (8 + 52 * (i : Int)) = 8 + 52 * (i : Int) := IntWalk.i64_in _ (by omega)
      have hw3 : IntKind.i64.wrap (8 + 52 * (i : Int) + 52) = 8 + 52 * (i : Int) + 52 := IntWalk.i64_in _ (by omega)
      obtain ⟨a, ha⟩ : ∃ a, a = 8 + 52 * i := ⟨_, rfl⟩
      have hai : 8 + 52 * (i : Int) = (a : Int) := by omega
      have ha512 : a + 52 ≤ 512 := by omega
      have PI := Lib.hid (PA.out i a hlt ha)
      have KBA := Lib.hid (KB.out a (by omega))
      obtain ⟨q1, q2, q3⟩ := SK.out a ha512
      have SK1 := Lib.hid (q1.below HBW.out)
      have SV0 := Lib.hid q2
      have LK := Lib.hid q3
      have S1 : Hid (∀ W, (Instr.slice 27 (.slice (some ⟨b, o, none⟩) 512 ca) (some (.int .i64 (a : Int))) (some (.int .i64 ((a : Int) + 8))) none).run Try.prog W = .ok (.slice (some ⟨b, o + a, none⟩) 8 (ca - a)) W) := fun W => by
        have h := sl_lh b o 512 ca a (a + 8) (by omega) (by omega) (by omega) W
        rw [show a + 8 - a = 8 by omega] at h
        exact h
      have S2 : Hid (∀ W, (Instr.slice 27 (.slice (some ⟨b, o, none⟩) 512 ca) (some (.int .i64 ((a : Int) + 8))) (some (.int .i64 ((a : Int) + 52))) none).run Try.prog W = .ok (.slice (some ⟨b, o + (a + 8), none⟩) 44 (ca - (a + 8))) W) := fun W => by
        have h := sl_lh b o 512 ca (a + 8) (a + 52) (by omega) (by omega) (by omega) W
        rw [show a + 52 - (a + 8) = 44 by omega] at h
        exact h
      have hab : (a : Int) ≤ 512 := by omega
      have ha0 : (0 : Int) ≤ (a : Int) := by omega
      have NC : Hid (∀ W, Sees W (.slice (some ⟨b, o + a, none⟩) 8 (ca - a)) ((xs.drop a).take 8) → Calls Try.prog 33 #[.slice (some ⟨b, o + a, none⟩) 8 (ca - a)] W fun e w' => e = .returned (.int .u64 (numI ((xs.drop a).take 8))) ∧ Below W.heap.size W w') := fun W h => numberB _ _ LK.out W h
      generalize numI ((xs.drop a).take 8) = key at PI KBA NC
      have HAI := Lib.hid hai
      have HAA := Lib.hid ha
      clear hlt hiC q1 q2 q3 hai ha hab ha0 ha512
      go_upto_region 8 with (fail)
      clear cB hfit
      go_upto_region 9 with (fail)
      rw [HAI.out]
      clear hii hi11 hw1 hw2 hw3
      have HAB : Hid ((a : Int) ≤ 512) := by have h1 := HAA.out; have h2 := HLT.out; have h3 := HM.out; show _ ≤ _; clear hCw; omega
      have HW8 : Hid (IntKind.i64.wrap ((a : Int) + 8) = (a : Int) + 8) := IntWalk.i64_in _ (by have := HAB.out; omega)
      have HW9 : Hid (IntKind.i64.wrap ((a : Int) + 52) = (a : Int) + 52) := IntWalk.i64_in _ (by have := HAB.out; omega)
      have GB := G2
      have HW4 := Lib.hid (Below.refl wr.heap.size wr)
      refine wp_region_held_drew (S := fun W => Below w.heap.size w W) (by kernel_rfl) (HBW.out.drew) (fun hS => ?_)
      have hb0 : Below wr.heap.size wr wr.drew := (Below.refl _ _).drew
      have qGB := (hb0.block _ (blk_lt GB.out)).trans GB.out
      have qSK1 := SK1.out.below hb0
      have qHW4 := HW4.out.trans (hb0.mono HW4.out.size)
      clear hb0 GB SK1 HW4
      generalize wr.drew = Wgs at hS qGB qSK1 qHW4 ⊢
      have GB := Lib.hid qGB
      have SK1 := Lib.hid qSK1
      have HW4 := Lib.hid qHW4
      clear qGB qSK1 qHW4
      refine' wpAnyH_take (i := 0) ?h1x0g ?hsx0g ?hfx0g ?hrx0g ?hQx0g (Or.inl ⟨?hwx0g, ?hyx0g⟩) hS ?restx0g
      case h1x0g => (simp only [List.getElem?_toArray, List.getElem?_cons_zero]; rfl)
      case hsx0g | hfx0g | hrx0g => kernel_rfl
      case hQx0g => exact fun _ _ _ h => h
      case hwx0g => rfl
      case hyx0g =>
        intro W hW
        go_simp
        try with_reducible rfl
      simp only [Act.put, List.setIfInBounds_toArray, List.set_cons_succ, List.set_cons_zero]
      refine' wpAnyH_take (i := 2) ?h1x2g ?hsx2g ?hfx2g ?hrx2g ?hQx2g (Or.inl ⟨?hwx2g, ?hyx2g⟩) hS ?restx2g
      case h1x2g => (simp only [List.getElem?_toArray, List.getElem?_cons_succ, List.getElem?_cons_zero]; rfl)
      case hsx2g | hfx2g | hrx2g => kernel_rfl
      case hQx2g => exact fun _ _ _ h => h
      case hwx2g => rfl
      case hyx2g =>
        intro W hW
        go_simp
        try with_reducible rfl
      simp only [Act.put, List.setIfInBounds_toArray, List.set_cons_succ, List.set_cons_zero]
      refine' wpAnyH_take (i := 3) ?h1x3g ?hsx3g ?hfx3g ?hrx3g ?hQx3g (Or.inl ⟨?hwx3g, ?hyx3g⟩) hS ?restx3g
      case h1x3g => (simp only [List.getElem?_toArray, List.getElem?_cons_succ, List.getElem?_cons_zero]; rfl)
      case hsx3g | hfx3g | hrx3g => kernel_rfl
      case hQx3g => exact fun _ _ _ h => h
      case hwx3g => rfl
      case hyx3g =>
        intro W hW
        go_simp
        try with_reducible rfl
      simp only [Act.put, List.setIfInBounds_toArray, List.set_cons_succ, List.set_cons_zero]
      refine' wpAnyH_take (i := 4) ?h1x4g ?hsx4g ?hfx4g ?hrx4g ?hQx4g (Or.inl ⟨?hwx4g, ?hyx4g⟩) hS ?restx4g
      case h1x4g => (simp only [List.getElem?_toArray, List.getElem?_cons_succ, List.getElem?_cons_zero]; rfl)
      case hsx4g | hfx4g | hrx4g => kernel_rfl
      case hQx4g => exact fun _ _ _ h => h
      case hwx4g => rfl
      case hyx4g =>
        intro W hW
        go_simp
        try with_reducible rfl
      simp only [Act.put, List.setIfInBounds_toArray, List.set_cons_succ, List.set_cons_zero]
      refine' wpAnyH_take (i := 8) ?h1x8g ?hsx8g ?hfx8g ?hrx8g ?hQx8g (Or.inl ⟨?hwx8g, ?hyx8g⟩) hS ?restx8g
      case h1x8g => (simp only [List.getElem?_toArray, List.getElem?_cons_succ, List.getElem?_cons_zero]; rfl)
      case hsx8g | hfx8g | hrx8g => kernel_rfl
      case hQx8g => exact fun _ _ _ h => h
      case hwx8g => rfl
      case hyx8g =>
        intro W hW
        go_simp
        try with_reducible rfl
      simp only [Act.put, List.setIfInBounds_toArray, List.set_cons_succ, List.set_cons_zero]
      refine' wpAnyH_take (i := 9) ?h1x9g ?hsx9g ?hfx9g ?hrx9g ?hQx9g (Or.inl ⟨?hwx9g, ?hyx9g⟩) hS ?restx9g
      case h1x9g => (simp only [List.getElem?_toArray, List.getElem?_cons_succ, List.getElem?_cons_zero]; rfl)
      case hsx9g | hfx9g | hrx9g => kernel_rfl
      case hQx9g => exact fun _ _ _ h => h
      case hwx9g => rfl
      case hyx9g =>
        intro W hW
        go_simp
        try with_reducible rfl
      simp only [Act.put, List.setIfInBounds_toArray, List.set_cons_succ, List.set_cons_zero]
      refine' wpAnyH_take (i := 11) ?h1x11g ?hsx11g ?hfx11g ?hrx11g ?hQx11g (Or.inl ⟨?hwx11g, ?hyx11g⟩) hS ?restx11g
      case h1x11g => (simp only [List.getElem?_toArray, List.getElem?_cons_succ, List.getElem?_cons_zero]; rfl)
      case hsx11g | hfx11g | hrx11g => kernel_rfl
      case hQx11g => exact fun _ _ _ h => h
      case hwx11g => rfl
      case hyx11g =>
        intro W hW
        go_simp
        try with_reducible rfl
      simp only [Act.put, List.setIfInBounds_toArray, List.set_cons_succ, List.set_cons_zero]
      refine' wpAnyH_take (i := 12) ?h1x12g ?hsx12g ?hfx12g ?hrx12g ?hQx12g (Or.inl ⟨?hwx12g, ?hyx12g⟩) hS ?restx12g
      case h1x12g => (simp only [List.getElem?_toArray, List.getElem?_cons_succ, List.getElem?_cons_zero]; rfl)
      case hsx12g | hfx12g | hrx12g => kernel_rfl
      case hQx12g => exact fun _ _ _ h => h
      case hwx12g => rfl
      case hyx12g =>
        intro W hW
        go_simp
        try with_reducible rfl
      simp only [Act.put, List.setIfInBounds_toArray, List.set_cons_succ, List.set_cons_zero]
      refine' wpAnyH_take (i := 5) ?h1x5g ?hsx5g ?hfx5g ?hrx5g ?hQx5g (Or.inl ⟨?hwx5g, ?hyx5g⟩) hS ?restx5g
      case h1x5g => (simp only [List.getElem?_toArray, List.getElem?_cons_succ, List.getElem?_cons_zero]; rfl)
      case hsx5g | hfx5g | hrx5g => kernel_rfl
      case hQx5g => exact fun _ _ _ h => h
      case hwx5g => rfl
      case hyx5g =>
        intro W hW
        have z1 := HW8.out
        have z2 := HW9.out
        go_simp
        try with_reducible rfl
      simp only [Act.put, List.setIfInBounds_toArray, List.set_cons_succ, List.set_cons_zero]
      refine' wpAnyH_take (i := 10) ?h1x10g ?hsx10g ?hfx10g ?hrx10g ?hQx10g (Or.inl ⟨?hwx10g, ?hyx10g⟩) hS ?restx10g
      case h1x10g => (simp only [List.getElem?_toArray, List.getElem?_cons_succ, List.getElem?_cons_zero]; rfl)
      case hsx10g | hfx10g | hrx10g => kernel_rfl
      case hQx10g => exact fun _ _ _ h => h
      case hwx10g => rfl
      case hyx10g =>
        intro W hW
        have z1 := HW8.out
        have z2 := HW9.out
        go_simp
        try with_reducible rfl
      simp only [Act.put, List.setIfInBounds_toArray, List.set_cons_succ, List.set_cons_zero]
      refine' wpAnyH_take (i := 13) ?h1x13g ?hsx13g ?hfx13g ?hrx13g ?hQx13g (Or.inl ⟨?hwx13g, ?hyx13g⟩) hS ?restx13g
      case h1x13g => (simp only [List.getElem?_toArray, List.getElem?_cons_succ, List.getElem?_cons_zero]; rfl)
      case hsx13g | hfx13g | hrx13g => kernel_rfl
      case hQx13g => exact fun _ _ _ h => h
      case hwx13g => rfl
      case hyx13g =>
        intro W hW
        have z1 := HW8.out
        have z2 := HW9.out
        go_simp
        try with_reducible rfl
      simp only [Act.put, List.setIfInBounds_toArray, List.set_cons_succ, List.set_cons_zero]
      refine' wpAnyH_take (i := 6) ?h1x6g ?hsx6g ?hfx6g ?hrx6g ?hQx6g (Or.inl ⟨?hwx6g, ?hyx6g⟩) hS ?restx6g
      case h1x6g => (simp only [List.getElem?_toArray, List.getElem?_cons_succ, List.getElem?_cons_zero]; rfl)
      case hsx6g | hfx6g | hrx6g => kernel_rfl
      case hQx6g => exact fun _ _ _ h => h
      case hwx6g => rfl
      case hyx6g =>
        intro W hW
        have s1 := S1.out W
        go_simp
        try with_reducible rfl
      simp only [Act.put, List.setIfInBounds_toArray, List.set_cons_succ, List.set_cons_zero]
      refine' wpAnyH_take (i := 14) ?h1x14g ?hsx14g ?hfx14g ?hrx14g ?hQx14g (Or.inl ⟨?hwx14g, ?hyx14g⟩) hS ?restx14g
      case h1x14g => (simp only [List.getElem?_toArray, List.getElem?_cons_succ, List.getElem?_cons_zero]; rfl)
      case hsx14g | hfx14g | hrx14g => kernel_rfl
      case hQx14g => exact fun _ _ _ h => h
      case hwx14g => rfl
      case hyx14g =>
        intro W hW
        have s2 := S2.out W
        go_simp
        try with_reducible rfl
      simp only [Act.put, List.setIfInBounds_toArray, List.set_cons_succ, List.set_cons_zero]
      refine wpAnyH_ready (rs := [1, 7]) (by kernel_rfl) (by simp) ?_
      refine' (AllReadyH.cons ?hoc1g (fun K hK => ?stc1g) (AllReadyH.cons ?hoc7g (fun K hK => ?stc7g) AllReadyH.nil))
      case hoc1g => (simp only [List.getElem?_toArray, List.getElem?_cons_succ, List.getElem?_cons_zero]; rfl)
      case hoc7g => (simp only [List.getElem?_toArray, List.getElem?_cons_succ, List.getElem?_cons_zero]; rfl)
      case stc1g =>
        have ck := (cell_row GB.out 1).trans (show (#[Value.bool true, .slice x i c] : Array Value)[1]? = some (.slice x i c) from rfl)
        go_simp
        refine hK.out _ _ hS (fun hHeld => ?_)
        clear hK K
        try simp only [Act.put, List.setIfInBounds_toArray, List.set_cons_succ, List.set_cons_zero]
        clear hS
        have hS := hHeld
        clear hHeld
        refine wpAnyH_ready (rs := [7]) (by kernel_rfl) (by simp) ?_
        refine' (AllReadyH.cons ?hoc7gx1 (fun K hK => ?stc7gx1) AllReadyH.nil)
        case hoc7gx1 => (simp only [List.getElem?_toArray, List.getElem?_cons_succ, List.getElem?_cons_zero]; rfl)
        go_simp
        refine (NC.out Wgs SK1.out).mono ?_
        rintro e Wgx1x7 ⟨rfl, hb⟩
        have GB := Lib.hid ((hb.block _ (blk_lt GB.out)).trans GB.out)
        have SK1 := Lib.hid (SK1.out.below hb)
        have HW4 := Lib.hid (HW4.out.trans (hb.mono HW4.out.size))
        go_wp2_with fail
        refine hK.out _ _ (hS.trans (hb.mono hS.size)) (fun hHeld => ?_)
        clear hK K
        try simp only [Act.put, List.setIfInBounds_toArray, List.set_cons_succ, List.set_cons_zero]
        clear hS
        have hS := hHeld
        clear hHeld
        clear hb
        refine' wpAnyH_take (i := 15) ?h1x15gx1x7 ?hsx15gx1x7 ?hfx15gx1x7 ?hrx15gx1x7 ?hQx15gx1x7 (Or.inl ⟨?hwx15gx1x7, ?hyx15gx1x7⟩) hS ?restx15gx1x7
        case h1x15gx1x7 => (simp only [List.getElem?_toArray, List.getElem?_cons_succ, List.getElem?_cons_zero]; rfl)
        case hsx15gx1x7 | hfx15gx1x7 | hrx15gx1x7 => kernel_rfl
        case hQx15gx1x7 => exact fun _ _ _ h => h
        case hwx15gx1x7 => rfl
        case hyx15gx1x7 =>
          intro W hW
          have bb := b61f key (some ⟨b, o + (a + 8), none⟩) 44 (ca - (a + 8)) W
          go_simp
          try with_reducible rfl
        simp only [Act.put, List.setIfInBounds_toArray, List.set_cons_succ, List.set_cons_zero]
        refine wpAnyH_ready (rs := [16]) (by kernel_rfl) (by simp) ?_
        refine' (AllReadyH.cons ?hoc16gx1x7 (fun K hK => ?stc16gx1x7) AllReadyH.nil)
        case hoc16gx1x7 => (simp only [List.getElem?_toArray, List.getElem?_cons_succ, List.getElem?_cons_zero]; rfl)
        refine step_bs1 rfl 30 1 (.tmp 77) rfl (u := .agg #[.int .u64 key, .slice (some ⟨b, o + (a + 8), none⟩) 44 (ca - (a + 8))]) rfl (bs30 key _ _ _ _) ?_
        have hb := (Below.refl Wgx1x7.heap.size Wgx1x7).alloc (Nat.le_refl _) (.cells #[.int .u64 key, .slice (some ⟨b, o + (a + 8), none⟩) 44 (ca - (a + 8))] 61)
        refine hK.out _ _ (hS.trans (hb.mono hS.size)) (fun hHeld => ?_)
        clear hK K
        try simp only [Act.put, List.setIfInBounds_toArray, List.set_cons_succ, List.set_cons_zero]
        have qGP := heap_alloc_new Wgx1x7 (.cells #[.int .u64 key, .slice (some ⟨b, o + (a + 8), none⟩) 44 (ca - (a + 8))] 61)
        have hgp := hS.size
        have qGB := (hb.block _ (blk_lt GB.out)).trans GB.out
        have qSK1 := SK1.out.below hb
        have qHW4 := HW4.out.trans (hb.mono HW4.out.size)
        clear hS
        have hS := hHeld
        clear hHeld
        clear hb
        clear GB SK1 HW4
        generalize Wgx1x7.alloc (.cells #[.int .u64 key, .slice (some ⟨b, o + (a + 8), none⟩) 44 (ca - (a + 8))] 61) = Wgx1x7x16 at *
        generalize Wgx1x7.heap.size = gp at *
        have GB := Lib.hid qGB
        have SK1 := Lib.hid qSK1
        have HW4 := Lib.hid qHW4
        have GP := Lib.hid qGP
        clear qGB qSK1 qHW4 qGP
        refine wpAnyH_ready (rs := [17]) (by kernel_rfl) (by simp) ?_
        refine' (AllReadyH.cons ?hoc17gx1x7x16 (fun K hK => ?stc17gx1x7x16) AllReadyH.nil)
        case hoc17gx1x7x16 => (simp only [List.getElem?_toArray, List.getElem?_cons_succ, List.getElem?_cons_zero]; rfl)
        obtain ⟨x', c', W5, hrun, hb5, hg5, hstep⟩ := RdR.step R1.out R2.out G1.out G2.out HO.out HBW.out HW4.out GP.out SV0.out KBA.out PI.out HI100.out
        refine step_apq rfl (.tmp 63) (.tmp 78) rfl rfl rfl rfl hrun ?_
        have hS2 := hS.trans (hb5.mono (Nat.le_add_right _ _))
        refine hK.out _ _ hS2 (fun hHeld => ?_)
        clear hK K hrun hb5 hS hS2
        try simp only [Act.put, List.setIfInBounds_toArray, List.set_cons_succ, List.set_cons_zero]
        have hS := hHeld
        clear hHeld
        have G5 := Lib.hid hg5
        have HSTEP := Lib.hid hstep
        clear hg5 hstep
        refine' wpAnyH_take (i := 18) ?h1x18gx1x7x16x17 ?hsx18gx1x7x16x17 ?hfx18gx1x7x16x17 ?hrx18gx1x7x16x17 ?hQx18gx1x7x16x17 (Or.inl ⟨?hwx18gx1x7x16x17, ?hyx18gx1x7x16x17⟩) hS ?restx18gx1x7x16x17
        case h1x18gx1x7x16x17 => (simp only [List.getElem?_toArray, List.getElem?_cons_succ, List.getElem?_cons_zero]; rfl)
        case hsx18gx1x7x16x17 | hfx18gx1x7x16x17 | hrx18gx1x7x16x17 => kernel_rfl
        case hQx18gx1x7x16x17 => exact fun _ _ _ h => h
        case hwx18gx1x7x16x17 => rfl
        case hyx18gx1x7x16x17 =>
          intro W hW
          go_simp
          try with_reducible rfl
        simp only [Act.put, List.setIfInBounds_toArray, List.set_cons_succ, List.set_cons_zero]
        refine wpAnyH_ready (rs := [19]) (by kernel_rfl) (by simp) ?_
        refine' (AllReadyH.cons ?hoc19gx1x7x16x17 (fun K hK => ?stc19gx1x7x16x17) AllReadyH.nil)
        case hoc19gx1x7x16x17 => (simp only [List.getElem?_toArray, List.getElem?_cons_succ, List.getElem?_cons_zero]; rfl)
        have ck := (cell_row G5.out 1).trans (show (#[Value.bool true, .slice x i c] : Array Value)[1]? = some (.slice x i c) from rfl)
        have fz := oc.frozen_block G5.out 1
        have hS2 := hS.setCell (p := ⟨w.heap.size + 1, 1, none⟩) (Nat.le_succ _) (.slice x' (i + 1) c')
        go_simp
        refine hK.out _ _ hS2 (fun hHeld => ?_)
        clear hK K ck fz hS2 hS hHeld G5
        try simp only [Act.put]
        refine wpAnyH_done (by kernel_rfl) ?_ _
        have hi11 : (i : Int) ≤ 100 := by have := HI100.out; omega
        go_wp2_with fail
        go_roundw
        case rel => exact ⟨i + 1, by have := HLT.out; omega, by go_num, HSTEP.out⟩
        case measure => simp [intOf]; have := HLT.out; omega
      case stc7g =>
        go_simp
        refine (NC.out Wgs SK1.out).mono ?_
        rintro e Wgx7 ⟨rfl, hb⟩
        have GB := Lib.hid ((hb.block _ (blk_lt GB.out)).trans GB.out)
        have SK1 := Lib.hid (SK1.out.below hb)
        have HW4 := Lib.hid (HW4.out.trans (hb.mono HW4.out.size))
        go_wp2_with fail
        refine hK.out _ _ (hS.trans (hb.mono hS.size)) (fun hHeld => ?_)
        clear hK K
        try simp only [Act.put, List.setIfInBounds_toArray, List.set_cons_succ, List.set_cons_zero]
        clear hS
        have hS := hHeld
        clear hHeld
        clear hb
        refine' wpAnyH_take (i := 15) ?h1x15gx7 ?hsx15gx7 ?hfx15gx7 ?hrx15gx7 ?hQx15gx7 (Or.inl ⟨?hwx15gx7, ?hyx15gx7⟩) hS ?restx15gx7
        case h1x15gx7 => (simp only [List.getElem?_toArray, List.getElem?_cons_succ, List.getElem?_cons_zero]; rfl)
        case hsx15gx7 | hfx15gx7 | hrx15gx7 => kernel_rfl
        case hQx15gx7 => exact fun _ _ _ h => h
        case hwx15gx7 => rfl
        case hyx15gx7 =>
          intro W hW
          have bb := b61f key (some ⟨b, o + (a + 8), none⟩) 44 (ca - (a + 8)) W
          go_simp
          try with_reducible rfl
        simp only [Act.put, List.setIfInBounds_toArray, List.set_cons_succ, List.set_cons_zero]
        refine wpAnyH_ready (rs := [1, 16]) (by kernel_rfl) (by simp) ?_
        refine' (AllReadyH.cons ?hoc1gx7 (fun K hK => ?stc1gx7) (AllReadyH.cons ?hoc16gx7 (fun K hK => ?stc16gx7) AllReadyH.nil))
        case hoc1gx7 => (simp only [List.getElem?_toArray, List.getElem?_cons_succ, List.getElem?_cons_zero]; rfl)
        case hoc16gx7 => (simp only [List.getElem?_toArray, List.getElem?_cons_succ, List.getElem?_cons_zero]; rfl)
        case stc1gx7 =>
          have ck := (cell_row GB.out 1).trans (show (#[Value.bool true, .slice x i c] : Array Value)[1]? = some (.slice x i c) from rfl)
          go_simp
          refine hK.out _ _ hS (fun hHeld => ?_)
          clear hK K
          try simp only [Act.put, List.setIfInBounds_toArray, List.set_cons_succ, List.set_cons_zero]
          clear hS
          have hS := hHeld
          clear hHeld
          refine wpAnyH_ready (rs := [16]) (by kernel_rfl) (by simp) ?_
          refine' (AllReadyH.cons ?hoc16gx7x1 (fun K hK => ?stc16gx7x1) AllReadyH.nil)
          case hoc16gx7x1 => (simp only [List.getElem?_toArray, List.getElem?_cons_succ, List.getElem?_cons_zero]; rfl)
          refine step_bs1 rfl 30 1 (.tmp 77) rfl (u := .agg #[.int .u64 key, .slice (some ⟨b, o + (a + 8), none⟩) 44 (ca - (a + 8))]) rfl (bs30 key _ _ _ _) ?_
          have hb := (Below.refl Wgx7.heap.size Wgx7).alloc (Nat.le_refl _) (.cells #[.int .u64 key, .slice (some ⟨b, o + (a + 8), none⟩) 44 (ca - (a + 8))] 61)
          refine hK.out _ _ (hS.trans (hb.mono hS.size)) (fun hHeld => ?_)
          clear hK K
          try simp only [Act.put, List.setIfInBounds_toArray, List.set_cons_succ, List.set_cons_zero]
          have qGP := heap_alloc_new Wgx7 (.cells #[.int .u64 key, .slice (some ⟨b, o + (a + 8), none⟩) 44 (ca - (a + 8))] 61)
          have hgp := hS.size
          have qGB := (hb.block _ (blk_lt GB.out)).trans GB.out
          have qSK1 := SK1.out.below hb
          have qHW4 := HW4.out.trans (hb.mono HW4.out.size)
          clear hS
          have hS := hHeld
          clear hHeld
          clear hb
          clear GB SK1 HW4
          generalize Wgx7.alloc (.cells #[.int .u64 key, .slice (some ⟨b, o + (a + 8), none⟩) 44 (ca - (a + 8))] 61) = Wgx7x1x16 at *
          generalize Wgx7.heap.size = gp at *
          have GB := Lib.hid qGB
          have SK1 := Lib.hid qSK1
          have HW4 := Lib.hid qHW4
          have GP := Lib.hid qGP
          clear qGB qSK1 qHW4 qGP
          refine wpAnyH_ready (rs := [17]) (by kernel_rfl) (by simp) ?_
          refine' (AllReadyH.cons ?hoc17gx7x1x16 (fun K hK => ?stc17gx7x1x16) AllReadyH.nil)
          case hoc17gx7x1x16 => (simp only [List.getElem?_toArray, List.getElem?_cons_succ, List.getElem?_cons_zero]; rfl)
          obtain ⟨x', c', W5, hrun, hb5, hg5, hstep⟩ := RdR.step R1.out R2.out G1.out G2.out HO.out HBW.out HW4.out GP.out SV0.out KBA.out PI.out HI100.out
          refine step_apq rfl (.tmp 63) (.tmp 78) rfl rfl rfl rfl hrun ?_
          have hS2 := hS.trans (hb5.mono (Nat.le_add_right _ _))
          refine hK.out _ _ hS2 (fun hHeld => ?_)
          clear hK K hrun hb5 hS hS2
          try simp only [Act.put, List.setIfInBounds_toArray, List.set_cons_succ, List.set_cons_zero]
          have hS := hHeld
          clear hHeld
          have G5 := Lib.hid hg5
          have HSTEP := Lib.hid hstep
          clear hg5 hstep
          refine' wpAnyH_take (i := 18) ?h1x18gx7x1x16x17 ?hsx18gx7x1x16x17 ?hfx18gx7x1x16x17 ?hrx18gx7x1x16x17 ?hQx18gx7x1x16x17 (Or.inl ⟨?hwx18gx7x1x16x17, ?hyx18gx7x1x16x17⟩) hS ?restx18gx7x1x16x17
          case h1x18gx7x1x16x17 => (simp only [List.getElem?_toArray, List.getElem?_cons_succ, List.getElem?_cons_zero]; rfl)
          case hsx18gx7x1x16x17 | hfx18gx7x1x16x17 | hrx18gx7x1x16x17 => kernel_rfl
          case hQx18gx7x1x16x17 => exact fun _ _ _ h => h
          case hwx18gx7x1x16x17 => rfl
          case hyx18gx7x1x16x17 =>
            intro W hW
            go_simp
            try with_reducible rfl
          simp only [Act.put, List.setIfInBounds_toArray, List.set_cons_succ, List.set_cons_zero]
          refine wpAnyH_ready (rs := [19]) (by kernel_rfl) (by simp) ?_
          refine' (AllReadyH.cons ?hoc19gx7x1x16x17 (fun K hK => ?stc19gx7x1x16x17) AllReadyH.nil)
          case hoc19gx7x1x16x17 => (simp only [List.getElem?_toArray, List.getElem?_cons_succ, List.getElem?_cons_zero]; rfl)
          have ck := (cell_row G5.out 1).trans (show (#[Value.bool true, .slice x i c] : Array Value)[1]? = some (.slice x i c) from rfl)
          have fz := oc.frozen_block G5.out 1
          have hS2 := hS.setCell (p := ⟨w.heap.size + 1, 1, none⟩) (Nat.le_succ _) (.slice x' (i + 1) c')
          go_simp
          refine hK.out _ _ hS2 (fun hHeld => ?_)
          clear hK K ck fz hS2 hS hHeld G5
          try simp only [Act.put]
          refine wpAnyH_done (by kernel_rfl) ?_ _
          have hi11 : (i : Int) ≤ 100 := by have := HI100.out; omega
          go_wp2_with fail
          go_roundw
          case rel => exact ⟨i + 1, by have := HLT.out; omega, by go_num, HSTEP.out⟩
          case measure => simp [intOf]; have := HLT.out; omega
        case stc16gx7 =>
          refine step_bs1 rfl 30 1 (.tmp 77) rfl (u := .agg #[.int .u64 key, .slice (some ⟨b, o + (a + 8), none⟩) 44 (ca - (a + 8))]) rfl (bs30 key _ _ _ _) ?_
          have hb := (Below.refl Wgx7.heap.size Wgx7).alloc (Nat.le_refl _) (.cells #[.int .u64 key, .slice (some ⟨b, o + (a + 8), none⟩) 44 (ca - (a + 8))] 61)
          refine hK.out _ _ (hS.trans (hb.mono hS.size)) (fun hHeld => ?_)
          clear hK K
          try simp only [Act.put, List.setIfInBounds_toArray, List.set_cons_succ, List.set_cons_zero]
          have qGP := heap_alloc_new Wgx7 (.cells #[.int .u64 key, .slice (some ⟨b, o + (a + 8), none⟩) 44 (ca - (a + 8))] 61)
          have hgp := hS.size
          have qGB := (hb.block _ (blk_lt GB.out)).trans GB.out
          have qSK1 := SK1.out.below hb
          have qHW4 := HW4.out.trans (hb.mono HW4.out.size)
          clear hS
          have hS := hHeld
          clear hHeld
          clear hb
          clear GB SK1 HW4
          generalize Wgx7.alloc (.cells #[.int .u64 key, .slice (some ⟨b, o + (a + 8), none⟩) 44 (ca - (a + 8))] 61) = Wgx7x16 at *
          generalize Wgx7.heap.size = gp at *
          have GB := Lib.hid qGB
          have SK1 := Lib.hid qSK1
          have HW4 := Lib.hid qHW4
          have GP := Lib.hid qGP
          clear qGB qSK1 qHW4 qGP
          refine wpAnyH_ready (rs := [1]) (by kernel_rfl) (by simp) ?_
          refine' (AllReadyH.cons ?hoc1gx7x16 (fun K hK => ?stc1gx7x16) AllReadyH.nil)
          case hoc1gx7x16 => (simp only [List.getElem?_toArray, List.getElem?_cons_succ, List.getElem?_cons_zero]; rfl)
          have ck := (cell_row GB.out 1).trans (show (#[Value.bool true, .slice x i c] : Array Value)[1]? = some (.slice x i c) from rfl)
          go_simp
          refine hK.out _ _ hS (fun hHeld => ?_)
          clear hK K
          try simp only [Act.put, List.setIfInBounds_toArray, List.set_cons_succ, List.set_cons_zero]
          clear hS
          have hS := hHeld
          clear hHeld
          refine wpAnyH_ready (rs := [17]) (by kernel_rfl) (by simp) ?_
          refine' (AllReadyH.cons ?hoc17gx7x16x1 (fun K hK => ?stc17gx7x16x1) AllReadyH.nil)
          case hoc17gx7x16x1 => (simp only [List.getElem?_toArray, List.getElem?_cons_succ, List.getElem?_cons_zero]; rfl)
          obtain ⟨x', c', W5, hrun, hb5, hg5, hstep⟩ := RdR.step R1.out R2.out G1.out G2.out HO.out HBW.out HW4.out GP.out SV0.out KBA.out PI.out HI100.out
          refine step_apq rfl (.tmp 63) (.tmp 78) rfl rfl rfl rfl hrun ?_
          have hS2 := hS.trans (hb5.mono (Nat.le_add_right _ _))
          refine hK.out _ _ hS2 (fun hHeld => ?_)
          clear hK K hrun hb5 hS hS2
          try simp only [Act.put, List.setIfInBounds_toArray, List.set_cons_succ, List.set_cons_zero]
          have hS := hHeld
          clear hHeld
          have G5 := Lib.hid hg5
          have HSTEP := Lib.hid hstep
          clear hg5 hstep
          refine' wpAnyH_take (i := 18) ?h1x18gx7x16x1x17 ?hsx18gx7x16x1x17 ?hfx18gx7x16x1x17 ?hrx18gx7x16x1x17 ?hQx18gx7x16x1x17 (Or.inl ⟨?hwx18gx7x16x1x17, ?hyx18gx7x16x1x17⟩) hS ?restx18gx7x16x1x17
          case h1x18gx7x16x1x17 => (simp only [List.getElem?_toArray, List.getElem?_cons_succ, List.getElem?_cons_zero]; rfl)
          case hsx18gx7x16x1x17 | hfx18gx7x16x1x17 | hrx18gx7x16x1x17 => kernel_rfl
          case hQx18gx7x16x1x17 => exact fun _ _ _ h => h
          case hwx18gx7x16x1x17 => rfl
          case hyx18gx7x16x1x17 =>
            intro W hW
            go_simp
            try with_reducible rfl
          simp only [Act.put, List.setIfInBounds_toArray, List.set_cons_succ, List.set_cons_zero]
          refine wpAnyH_ready (rs := [19]) (by kernel_rfl) (by simp) ?_
          refine' (AllReadyH.cons ?hoc19gx7x16x1x17 (fun K hK => ?stc19gx7x16x1x17) AllReadyH.nil)
          case hoc19gx7x16x1x17 => (simp only [List.getElem?_toArray, List.getElem?_cons_succ, List.getElem?_cons_zero]; rfl)
          have ck := (cell_row G5.out 1).trans (show (#[Value.bool true, .slice x i c] : Array Value)[1]? = some (.slice x i c) from rfl)
          have fz := oc.frozen_block G5.out 1
          have hS2 := hS.setCell (p := ⟨w.heap.size + 1, 1, none⟩) (Nat.le_succ _) (.slice x' (i + 1) c')
          go_simp
          refine hK.out _ _ hS2 (fun hHeld => ?_)
          clear hK K ck fz hS2 hS hHeld G5
          try simp only [Act.put]
          refine wpAnyH_done (by kernel_rfl) ?_ _
          have hi11 : (i : Int) ≤ 100 := by have := HI100.out; omega
          go_wp2_with fail
          go_roundw
          case rel => exact ⟨i + 1, by have := HLT.out; omega, by go_num, HSTEP.out⟩
          case measure => simp [intOf]; have := HLT.out; omega
    · have hcases : C ≤ i ∨ (i < C ∧ 9 ≤ i ∧ 52 = 52) := by have := HM.out; clear hCw; omega
      obtain rfl : i = m := by omega
      clear hlt
      obtain ⟨Q, q1, q2, q3, q4, q5, q6, q7⟩ := HR.out.fin (PL.out) (by have := HM.out; clear hCw; omega)
      have QI : Hid ((Try.prog.info? 32).map (·.size) = some Q.size) := by show _ = _; rw [q1]; exact info32
      have QO := Lib.hid q2
      have QB := Lib.hid q3
      have QR := Lib.hid q4
      have QS : Hid (Z.size = Q.size) := by show _ = _; rw [ZE.out, q1]; rfl
      have QF := Lib.hid q5
      have QD : Hid (DM wr (.agg Q) (rdD xs)) := by show DM _ _ _; rw [RDX.out]; exact q6
      have QW : Hid (∀ W', Below wr.heap.size wr W' → DM (W'.setRow w.heap.size Q) (.agg Q) (rdD xs) ∧ Below w.heap.size w (W'.setRow w.heap.size Q)) := fun W' h => by rw [RDX.out]; exact q5 W' h
      have QL : Hid ((rdD xs).l.length ≤ 100) := by show _ ≤ _; rw [RDX.out]; show (rdL xs 44 i).length ≤ 100; rw [PL.out]; have := HM.out; clear hCw; omega
      clear q1 q2 q3 q4 q5 q6 q7
      rcases hcases with hge | ⟨hlc, h9, h52⟩
      · have hgei : ¬ (i : Int) < (C : Int) := by omega
        clear hge
        go_upto_region 10 with (fail)
        clear cB
        go_wp2_with (refine wpList_load_row rfl 32 (.tmp 4) rfl (w.heap.size + 1) rfl 32 Q (0, 0) _ QB.out Try.underlying32 rfl QI.out ?_)
        refine (writeD Q (rdD xs) wr QD.out QL.out).mono ?_
        rintro e w4 ⟨v4, rfl, hs4, hb⟩
        have SBW := Lib.hid ((HSEE.out.below HBW.out).below hb)
        have QB4 := Lib.hid ((hb.block _ (blk_lt QB.out)).trans QB.out)
        have QR4 := Lib.hid ((hb.block _ (blk_lt QR.out)).trans QR.out)
        have QR5 : Hid (w4.heap[w.heap.size]? = some (.cells Z 32 (0, 0))) := by show _ = _; rw [ZE.out]; exact QR4.out
        have QFIN := Lib.hid (QW.out w4 hb)
        have BFZ := Lib.hid ((HBW.out.trans (hb.mono HBW.out.size)).trans (below_row (B := w.heap.size) w4 Z (Nat.le_refl _)))
        have RZ := Lib.hid (setRow_heap w4 w.heap.size _ Z 32 _ QR5.out)
        have RQ := Lib.hid (setRow_heap w4 w.heap.size _ Q 32 _ QR5.out)
        clear hb
        cases hr : rightD (rdD xs) with
        | false =>
          have ISN : Hid (isD xs = false) := by show _ = _; rw [ISD.out, hr]; rfl
          rw [hr] at hs4
          simp only [Bool.false_eq_true, if_false]
          obtain ⟨x4, c4, rfl, _⟩ := hs4.form
          clear hs4 hr
          go_upto_region 12 with (fail)
          go_wp2_with (first
            | (refine wpList_blank rfl 32 rfl (BZ.out _) ?_)
            | (refine wpList_store_row rfl 32 (.tmp 2) (.tmp 95) rfl w.heap.size Z rfl rfl 32 Z QR5.out IZ.out rfl OZ.out ?_))
          exact bodyPost_ret (v := .tuple #[.agg Z, .int .i64 3]) (results_cell_tmp Try.results16 _ _ w.heap.size 32 Z (0, 0) _ rfl RZ.out Try.underlying32 rfl IZ.out) rfl
            ⟨Z, by rw [ISN.out]; rfl, by rw [ISN.out]; exact DZ.out _, BFZ.out⟩
        | true =>
          rw [hr] at hs4
          simp only [if_true] at hs4 ⊢
          have STR := Lib.hid (oc.str_eq (wrD (rdD xs)) xs hs4.1 HBY.out)
          have s1 := hs4.str
          have s2 := SBW.out.str
          obtain ⟨x4, c4, rfl, _⟩ := hs4.form
          clear hs4
          obtain ⟨n4, hn4⟩ : ∃ n4, n4 = (wrD (rdD xs)).length := ⟨_, rfl⟩
          rw [← hn4] at s1 ⊢
          clear hn4
          by_cases he : wrD (rdD xs) = xs
          · have ISY : Hid (isD xs = true) := by show _ = _; rw [ISD.out, hr, decide_eq_true he]; rfl
            rw [he] at s1
            have e1 : ((strOfNums xs).toList == (strOfNums xs).toList) = true := beq_self_eq_true _
            have e2 : ((strOfNums xs).toList != (strOfNums xs).toList) = false := by simp
            have HE := Lib.hid he
            clear hr he STR
            go_upto_region 13 with (fail)
            clear s1 s2 e1 e2
            go_wp2_with (first
              | (refine wpList_load_row rfl 32 (.tmp 4) rfl (w.heap.size + 1) rfl 32 Q (0, 0) _ QB4.out Try.underlying32 rfl QI.out ?_)
              | (refine wpList_store_row rfl 32 (.tmp 2) (.tmp 96) rfl w.heap.size Q rfl rfl 32 Z QR5.out QI.out QS.out QO.out ?_))
            exact bodyPost_ret (v := .tuple #[.agg Q, .int .i64 0]) (results_cell_tmp Try.results16 _ _ w.heap.size 32 Q (0, 0) _ rfl RQ.out Try.underlying32 rfl QI.out) rfl
              ⟨Q, by rw [ISY.out]; rfl, by rw [ISY.out]; exact QFIN.out.1, QFIN.out.2⟩
          · have ISN : Hid (isD xs = false) := by show _ = _; rw [ISD.out, hr, decide_eq_false he]; rfl
            have STR2 := STR.out
            rw [decide_eq_false he] at STR2
            generalize strOfNums (wrD (rdD xs)) = T1 at s1 STR2
            generalize strOfNums xs = T2 at s2 STR2
            have e1 : (T1.toList != T2.toList) = true := by rw [bne, STR2]; rfl
            clear hr he STR
            go_upto_region 12 with (fail)
            clear s1 s2 e1 STR2
            go_wp2_with (first
              | (refine wpList_blank rfl 32 rfl (BZ.out _) ?_)
              | (refine wpList_store_row rfl 32 (.tmp 2) (.tmp 95) rfl w.heap.size Z rfl rfl 32 Z QR5.out IZ.out rfl OZ.out ?_))
            exact bodyPost_ret (v := .tuple #[.agg Z, .int .i64 3]) (results_cell_tmp Try.results16 _ _ w.heap.size 32 Z (0, 0) _ rfl RZ.out Try.underlying32 rfl IZ.out) rfl
              ⟨Z, by rw [ISN.out]; rfl, by rw [ISN.out]; exact DZ.out _, BFZ.out⟩
      · have hlci : (i : Int) < (C : Int) := by omega
        have hnf : ¬ (8 + 52 * (i : Int) + 52 ≤ 512) := by clear hCw; omega
        have hi11 : (i : Int) ≤ 11 := by omega
        have hw1 : IntKind.i64.wrap (52 * (i : Int)) = 52 * (i : Int) := IntWalk.i64_in _ (by omega)
        have hw2 : IntKind.i64.wrap (8 + 52 * (i : Int)) = 8 + 52 * (i : Int) := IntWalk.i64_in _ (by omega)
        have hw3 : IntKind.i64.wrap (8 + 52 * (i : Int) + 52) = 8 + 52 * (i : Int) + 52 := IntWalk.i64_in _ (by omega)
        clear hlc h9 h52
        go_upto_region 10 with (fail)
        clear cB
        go_wp2_with (refine wpList_load_row rfl 32 (.tmp 4) rfl (w.heap.size + 1) rfl 32 Q (0, 0) _ QB.out Try.underlying32 rfl QI.out ?_)
        refine (writeD Q (rdD xs) wr QD.out QL.out).mono ?_
        rintro e w4 ⟨v4, rfl, hs4, hb⟩
        have SBW := Lib.hid ((HSEE.out.below HBW.out).below hb)
        have QB4 := Lib.hid ((hb.block _ (blk_lt QB.out)).trans QB.out)
        have QR4 := Lib.hid ((hb.block _ (blk_lt QR.out)).trans QR.out)
        have QR5 : Hid (w4.heap[w.heap.size]? = some (.cells Z 32 (0, 0))) := by show _ = _; rw [ZE.out]; exact QR4.out
        have QFIN := Lib.hid (QW.out w4 hb)
        have BFZ := Lib.hid ((HBW.out.trans (hb.mono HBW.out.size)).trans (below_row (B := w.heap.size) w4 Z (Nat.le_refl _)))
        have RZ := Lib.hid (setRow_heap w4 w.heap.size _ Z 32 _ QR5.out)
        have RQ := Lib.hid (setRow_heap w4 w.heap.size _ Q 32 _ QR5.out)
        clear hb
        cases hr : rightD (rdD xs) with
        | false =>
          have ISN : Hid (isD xs = false) := by show _ = _; rw [ISD.out, hr]; rfl
          rw [hr] at hs4
          simp only [Bool.false_eq_true, if_false]
          obtain ⟨x4, c4, rfl, _⟩ := hs4.form
          clear hs4 hr
          go_upto_region 12 with (fail)
          go_wp2_with (first
            | (refine wpList_blank rfl 32 rfl (BZ.out _) ?_)
            | (refine wpList_store_row rfl 32 (.tmp 2) (.tmp 95) rfl w.heap.size Z rfl rfl 32 Z QR5.out IZ.out rfl OZ.out ?_))
          exact bodyPost_ret (v := .tuple #[.agg Z, .int .i64 3]) (results_cell_tmp Try.results16 _ _ w.heap.size 32 Z (0, 0) _ rfl RZ.out Try.underlying32 rfl IZ.out) rfl
            ⟨Z, by rw [ISN.out]; rfl, by rw [ISN.out]; exact DZ.out _, BFZ.out⟩
        | true =>
          rw [hr] at hs4
          simp only [if_true] at hs4 ⊢
          have STR := Lib.hid (oc.str_eq (wrD (rdD xs)) xs hs4.1 HBY.out)
          have s1 := hs4.str
          have s2 := SBW.out.str
          obtain ⟨x4, c4, rfl, _⟩ := hs4.form
          clear hs4
          obtain ⟨n4, hn4⟩ : ∃ n4, n4 = (wrD (rdD xs)).length := ⟨_, rfl⟩
          rw [← hn4] at s1 ⊢
          clear hn4
          by_cases he : wrD (rdD xs) = xs
          · have ISY : Hid (isD xs = true) := by show _ = _; rw [ISD.out, hr, decide_eq_true he]; rfl
            rw [he] at s1
            have e1 : ((strOfNums xs).toList == (strOfNums xs).toList) = true := beq_self_eq_true _
            have e2 : ((strOfNums xs).toList != (strOfNums xs).toList) = false := by simp
            have HE := Lib.hid he
            clear hr he STR
            go_upto_region 13 with (fail)
            clear s1 s2 e1 e2
            go_wp2_with (first
              | (refine wpList_load_row rfl 32 (.tmp 4) rfl (w.heap.size + 1) rfl 32 Q (0, 0) _ QB4.out Try.underlying32 rfl QI.out ?_)
              | (refine wpList_store_row rfl 32 (.tmp 2) (.tmp 96) rfl w.heap.size Q rfl rfl 32 Z QR5.out QI.out QS.out QO.out ?_))
            exact bodyPost_ret (v := .tuple #[.agg Q, .int .i64 0]) (results_cell_tmp Try.results16 _ _ w.heap.size 32 Q (0, 0) _ rfl RQ.out Try.underlying32 rfl QI.out) rfl
              ⟨Q, by rw [ISY.out]; rfl, by rw [ISY.out]; exact QFIN.out.1, QFIN.out.2⟩
          · have ISN : Hid (isD xs = false) := by show _ = _; rw [ISD.out, hr, decide_eq_false he]; rfl
            have STR2 := STR.out
            rw [decide_eq_false he] at STR2
            generalize strOfNums (wrD (rdD xs)) = T1 at s1 STR2
            generalize strOfNums xs = T2 at s2 STR2
            have e1 : (T1.toList != T2.toList) = true := by rw [bne, STR2]; rfl
            clear hr he STR
            go_upto_region 12 with (fail)
            clear s1 s2 e1 STR2
            go_wp2_with (first
              | (refine wpList_blank rfl 32 rfl (BZ.out _) ?_)
              | (refine wpList_store_row rfl 32 (.tmp 2) (.tmp 95) rfl w.heap.size Z rfl rfl 32 Z QR5.out IZ.out rfl OZ.out ?_))
            exact bodyPost_ret (v := .tuple #[.agg Z, .int .i64 3]) (results_cell_tmp Try.results16 _ _ w.heap.size 32 Z (0, 0) _ rfl RZ.out Try.underlying32 rfl IZ.out) rfl
              ⟨Z, by rw [ISN.out]; rfl, by rw [ISN.out]; exact DZ.out _, BFZ.out⟩
set_option maxRecDepth 100000 in
set_option maxHeartbeats 16000000 in
theorem readD_false (v : Value) (xs : List Int) (w : World) (hv : Sees w v xs) (hl : xs.length = 512) (h0 : nth xs 0 = 2) (hc : nth xs 1 ≤ 11) : Calls Try.prog 16 #[v] w (ReadDP w xs) := by
  have hlf : lfD xs = false := by unfold lfD; rw [h0]; rfl
  have hfine : fineD xs = true := by unfold fineD; rw [decide_eq_true hl, h0, decide_eq_true hc]; rfl
  obtain ⟨b, o, ca, rfl⟩ := Sees_block hv hl
  have hcap : 512 ≤ ca ∧ ca ≤ maxLen := by
    obtain ⟨_, ⟨e, _⟩ | ⟨_, _, _, e, _⟩ | ⟨_, _, _, e, _, q1, q2, _⟩⟩ := hv
    · cases e
    · rw [e] at hl; simp at hl
    · injection e with e1 e2 e3; subst e3; exact ⟨by omega, q2⟩
  have k10 := (hv.1.nth 1).1
  obtain ⟨C, hC⟩ : ∃ C : Nat, nth xs 1 = (C : Int) := ⟨(nth xs 1).toNat, by omega⟩
  have hC11 : C ≤ 11 := by omega
  obtain ⟨m, hm⟩ : ∃ m, m = C := ⟨_, rfl⟩
  have RDX : Hid (rdD xs = ⟨false, rdL xs 36 m⟩) := by show _ = _; unfold rdD cntD; rw [hlf, hC, hm]; rfl
  have ISD : Hid (isD xs = (rightD (rdD xs) && decide (wrD (rdD xs) = xs))) := by show _ = _; unfold isD; rw [hfine]; rfl
  have PA : Hid (∀ i a, i < m → a = 8 + 44 * i → (rdL xs 36 m)[i]? = some (numI ((xs.drop a).take 8), (xs.drop (a + 8)).take 36)) := fun i a hi ha => by
    rw [rdL_at hi, ha, show 16 + (8 + 36) * i = 8 + 44 * i + 8 by omega]
  have PL := Lib.hid (rdL_len xs 36 m)
  have KB : Hid (∀ a, a + 8 ≤ 512 → 0 ≤ numI ((xs.drop a).take 8) ∧ numI ((xs.drop a).take 8) ≤ 18446744073709551615) := fun a ha => by
    have := oc.numI_part xs a 8 hv.1 (by omega)
    omega
  have SK : Hid (∀ a, a + 44 ≤ 512 → Sees w (.slice (some ⟨b, o + a, none⟩) 8 (ca - a)) ((xs.drop a).take 8) ∧ Sees w (.slice (some ⟨b, o + (a + 8), none⟩) 36 (ca - (a + 8))) ((xs.drop (a + 8)).take 36) ∧ ((xs.drop a).take 8).length ≤ 8) := fun a ha => by
    rw [← hl] at hv
    refine ⟨sees_sub hv a 8 _ (by omega) (by decide) (by omega) (by omega), sees_sub hv (a + 8) 36 _ (by omega) (by decide) (by omega) (by omega), by rw [List.length_take]; omega⟩
  have hca : (ca : Int) ≤ 9223372036854775807 := by have := hcap.2; unfold maxLen at this; omega
  have hca2 : 512 ≤ ca := hcap.1
  have HSEE := Lib.hid hv
  have HBY := Lib.hid hv.1
  have hz := z32
  have bz := b32z
  obtain ⟨Z, hZ⟩ : ∃ Z : Array Value, Z = #[.bool false, .slice none 0 0] := ⟨_, rfl⟩
  rw [← hZ] at hz bz
  have BZ := Lib.hid bz
  have ZE := Lib.hid hZ
  have DZ : Hid (∀ W, DM W (.agg Z) nzD) := fun W => by rw [hZ]; exact ndm_nz W
  have IZ : Hid ((Try.prog.info? 32).map (·.size) = some Z.size) := by show _ = _; rw [hZ]; exact i32 _ _
  have OZ : Hid (Z.all (·.oneCell') = true) := by show _ = _; rw [hZ]; simp [Value.oneCell']
  obtain ⟨O, hO⟩ : ∃ O : Array Value, O = #[.bool false, .slice none 0 0] := ⟨_, rfl⟩
  have BU : Hid (∀ W, (Instr.build 32 #[(0, .bool false)]).run Try.prog W = .ok (.agg O) W) := by show ∀ _, _; rw [hO]; exact b32 false
  have IO : Hid ((Try.prog.info? 32).map (·.size) = some O.size) := by show _ = _; rw [hO]; exact i32 _ _
  have SO : Hid (Z.size = O.size) := by show _ = _; rw [hZ, hO]; try rfl
  have OO : Hid (O.all (·.oneCell') = true) := by show _ = _; rw [hO]; simp [Value.oneCell']
  obtain ⟨W0, hW0⟩ : ∃ W0, W0 = w.alloc (.cells Z 32) := ⟨_, rfl⟩
  have b0 : Below w.heap.size w W0 := by rw [hW0]; exact (Below.refl _ _).alloc (Nat.le_refl _) _
  have hsz : W0.heap.size = w.heap.size + 1 := by rw [hW0]; simp
  have G0 : W0.heap[w.heap.size]? = some (.cells Z 32 (0, 0)) := by rw [hW0]; exact heap_alloc_new w _
  obtain ⟨W1, hW1⟩ : ∃ W1, W1 = W0.alloc (.cells O 32) := ⟨_, rfl⟩
  have al : Below W0.heap.size W0 W1 := by rw [hW1]; exact (Below.refl _ _).alloc (Nat.le_refl _) _
  have GN := Lib.hid (heap_alloc_new W0 (.cells Z 32))
  have RW : Hid ((W0.alloc (.cells Z 32)).setRow W0.heap.size O = W1) := by show _ = _; rw [hW1]; exact alloc_setRowT W0 Z O 32 _ rfl
  have g1 : W1.heap[w.heap.size + 1]? = some (.cells O 32 (0, 0)) := by rw [hW1, ← hsz]; exact heap_alloc_new W0 _
  have g0 := (al.block _ (blk_lt G0)).trans G0
  have b1 := b0.trans (al.mono b0.size)
  have START : Hid (RdR w false (rdL xs 36 m) 0 W1) := by
    refine ⟨[], none, 0, by simp, fun r hr => (by cases hr), by rw [← hZ]; exact g0, by rw [← hO]; exact g1, World.ownsRow_nil _ _ _ _, b1⟩
  have GB1 := Lib.hid g1
  have HW0 := Lib.hid hW0
  have HSZ := Lib.hid hsz
  have hv0 := hv.below b0
  have c0 := Sees_cell hv0 0 (by omega)
  have c1 := Sees_cell hv0 1 (by omega)
  rw [Nat.add_zero, h0] at c0
  rw [hC] at c1
  have CB : Hid (CellF w b (o + 1) (.int .u8 (C : Int))) := by
    have h := Sees_cell hv 1 (by omega)
    rw [hC] at h
    refine ⟨?_, h⟩
    refine Decidable.byContradiction fun hb => ?_
    have : w.heap[b]? = none := Array.getElem?_eq_none (by omega)
    simp [World.cell?, this] at h
  have hCi : (C : Int) ≤ 11 := by omega
  have hCn : ¬ (11 < (C : Int)) := by omega
  have hCn2 : decide ((11 : Int) < (C : Int)) = false := decide_eq_false hCn
  have hCw : IntKind.i64.wrap (C : Int) = (C : Int) := IntWalk.i64_in _ (by omega)
  have HM := Lib.hid hm
  have B1 := Lib.hid b1
  have O0 : Hid (O[0]? = some (.bool false)) := by show _ = _; rw [hO]; rfl
  clear hW0 hW1 b0 hsz G0 g0 g1 al b1 hO hZ bz hv hv0 hlf hfine hcap k10 hC h0 hc hm
  go_enter Try.func16, Try.ntmps16
  go_upto_region 1 with (fail)
  rw [← HW0.out]
  go_upto_region 3 with (fail)
  go_upto_region 4 with (first
    | (refine wpList_build1 rfl 32 0 (.tmp 35) rfl (u := .bool false) rfl (BU.out _) ?_)
    | (refine wpList_store_row rfl 32 (.tmp 4) (.tmp 36) rfl W0.heap.size O rfl rfl 32 Z GN.out IO.out SO.out OO.out ?_))
  rw [RW.out]
  try simp only [Act.put]
  rw [HSZ.out]
  clear c0 c1 hz BU GN RW
  have cc := (cell_row GB1.out 0).trans O0.out
  go_wp2_with fail
  refine (size_false W1).mono ?_
  rintro e W2 ⟨rfl, hb⟩
  have START2 : Hid (RdR w false (rdL xs 36 m) 0 W2) := by
    obtain ⟨rows, x, c, r1, r2, r3, r4, r5, r6⟩ := START.out
    have grow : W1.grownBy W2 none := ⟨hb.os, hb.tape, hb.output, hb.size, fun k hk _ => hb.block k hk⟩
    exact ⟨rows, x, c, r1, r2, (hb.block _ (blk_lt r3)).trans r3, (hb.block _ (blk_lt r4)).trans r4, r5.kept grow (by cases (Value.slice x 0 c).ownBlock <;> simp), r6.trans (hb.mono r6.size)⟩
  clear cc hb START
  go_upto_region 5 with (fail)
  go_wp2_with fail
  refine (show Code.wp _ _ _ _ _ from ?_)
  go_loopw [6] (fun v6 wr => ∃ i : Nat, i ≤ m ∧ v6 = .int .i64 (i : Int) ∧ RdR w false (rdL xs 36 m) i wr) (fun v6 _ => m - (intOf v6).toNat)
  case atStart => exact ⟨0, by omega, rfl, START2.out⟩
  case round =>
    obtain ⟨i, hi, rfl, hrel⟩ := hrel
    have HR := Lib.hid hrel
    obtain ⟨rows, x, c, r1, r2, r3, r4, r5, r6⟩ := hrel
    have cB := (CB.out.below r6).2
    have HBW := Lib.hid r6
    have R1 := Lib.hid r1
    have R2 := Lib.hid r2
    have G1 := Lib.hid r3
    have G2 := Lib.hid r4
    have HO := Lib.hid r5
    clear r1 r2 r3 r4 r5 r6
    by_cases hlt : i < m
    · have hiC : i < C := by have := HM.out; omega
      have hii : (i : Int) < (C : Int) := by omega
      have hfit : 8 + 44 * (i : Int) + 44 ≤ 512 := by have := HM.out; omega
      have hi11 : (i : Int) ≤ 11 := by omega
      have HLT := Lib.hid hlt
      have HI100 : Hid (i ≤ 100) := by have := HM.out; show _ ≤ _; omega
      have hw1 : IntKind.i64.wrap (44 * (i : Int)) = 44 * (i : Int) := IntWalk.i64_in _ (by omega)
      have hw2 : IntKind.i64.wrap (8 + 44 * (i : Int)) = 8 + 44 * (i : Int) := IntWalk.i64_in _ (by omega)
      have hw3 : IntKind.i64.wrap (8 + 44 * (i : Int) + 44) = 8 + 44 * (i : Int) + 44 := IntWalk.i64_in _ (by omega)
      obtain ⟨a, ha⟩ : ∃ a, a = 8 + 44 * i := ⟨_, rfl⟩
      have hai : 8 + 44 * (i : Int) = (a : Int) := by omega
      have ha512 : a + 44 ≤ 512 := by omega
      have PI := Lib.hid (PA.out i a hlt ha)
      have KBA := Lib.hid (KB.out a (by omega))
      obtain ⟨q1, q2, q3⟩ := SK.out a ha512
      have SK1 := Lib.hid (q1.below HBW.out)
      have SV0 := Lib.hid q2
      have LK := Lib.hid q3
      have S1 : Hid (∀ W, (Instr.slice 27 (.slice (some ⟨b, o, none⟩) 512 ca) (some (.int .i64 (a : Int))) (some (.int .i64 ((a : Int) + 8))) none).run Try.prog W = .ok (.slice (some ⟨b, o + a, none⟩) 8 (ca - a)) W) := fun W => by
        have h := sl_lh b o 512 ca a (a + 8) (by omega) (by omega) (by omega) W
        rw [show a + 8 - a = 8 by omega] at h
        exact h
      have S2 : Hid (∀ W, (Instr.slice 27 (.slice (some ⟨b, o, none⟩) 512 ca) (some (.int .i64 ((a : Int) + 8))) (some (.int .i64 ((a : Int) + 44))) none).run Try.prog W = .ok (.slice (some ⟨b, o + (a + 8), none⟩) 36 (ca - (a + 8))) W) := fun W => by
        have h := sl_lh b o 512 ca (a + 8) (a + 44) (by omega) (by omega) (by omega) W
        rw [show a + 44 - (a + 8) = 36 by omega] at h
        exact h
      have hab : (a : Int) ≤ 512 := by omega
      have ha0 : (0 : Int) ≤ (a : Int) := by omega
      have NC : Hid (∀ W, Sees W (.slice (some ⟨b, o + a, none⟩) 8 (ca - a)) ((xs.drop a).take 8) → Calls Try.prog 33 #[.slice (some ⟨b, o + a, none⟩) 8 (ca - a)] W fun e w' => e = .returned (.int .u64 (numI ((xs.drop a).take 8))) ∧ Below W.heap.size W w') := fun W h => numberB _ _ LK.out W h
      generalize numI ((xs.drop a).take 8) = key at PI KBA NC
      have HAI := Lib.hid hai
      have HAA := Lib.hid ha
      clear hlt hiC q1 q2 q3 hai ha hab ha0 ha512
      go_upto_region 8 with (fail)
      clear cB hfit
      go_upto_region 9 with (fail)
      rw [HAI.out]
      clear hii hi11 hw1 hw2 hw3
      have HAB : Hid ((a : Int) ≤ 512) := by have h1 := HAA.out; have h2 := HLT.out; have h3 := HM.out; show _ ≤ _; clear hCw; omega
      have HW8 : Hid (IntKind.i64.wrap ((a : Int) + 8) = (a : Int) + 8) := IntWalk.i64_in _ (by have := HAB.out; omega)
      have HW9 : Hid (IntKind.i64.wrap ((a : Int) + 44) = (a : Int) + 44) := IntWalk.i64_in _ (by have := HAB.out; omega)
      have GB := G2
      have HW4 := Lib.hid (Below.refl wr.heap.size wr)
      refine wp_region_held_drew (S := fun W => Below w.heap.size w W) (by kernel_rfl) (HBW.out.drew) (fun hS => ?_)
      have hb0 : Below wr.heap.size wr wr.drew := (Below.refl _ _).drew
      have qGB := (hb0.block _ (blk_lt GB.out)).trans GB.out
      have qSK1 := SK1.out.below hb0
      have qHW4 := HW4.out.trans (hb0.mono HW4.out.size)
      clear hb0 GB SK1 HW4
      generalize wr.drew = Wgs at hS qGB qSK1 qHW4 ⊢
      have GB := Lib.hid qGB
      have SK1 := Lib.hid qSK1
      have HW4 := Lib.hid qHW4
      clear qGB qSK1 qHW4
      refine' wpAnyH_take (i := 0) ?h1x0g ?hsx0g ?hfx0g ?hrx0g ?hQx0g (Or.inl ⟨?hwx0g, ?hyx0g⟩) hS ?restx0g
      case h1x0g => (simp only [List.getElem?_toArray, List.getElem?_cons_zero]; rfl)
      case hsx0g | hfx0g | hrx0g => kernel_rfl
      case hQx0g => exact fun _ _ _ h => h
      case hwx0g => rfl
      case hyx0g =>
        intro W hW
        go_simp
        try with_reducible rfl
      simp only [Act.put, List.setIfInBounds_toArray, List.set_cons_succ, List.set_cons_zero]
      refine' wpAnyH_take (i := 2) ?h1x2g ?hsx2g ?hfx2g ?hrx2g ?hQx2g (Or.inl ⟨?hwx2g, ?hyx2g⟩) hS ?restx2g
      case h1x2g => (simp only [List.getElem?_toArray, List.getElem?_cons_succ, List.getElem?_cons_zero]; rfl)
      case hsx2g | hfx2g | hrx2g => kernel_rfl
      case hQx2g => exact fun _ _ _ h => h
      case hwx2g => rfl
      case hyx2g =>
        intro W hW
        go_simp
        try with_reducible rfl
      simp only [Act.put, List.setIfInBounds_toArray, List.set_cons_succ, List.set_cons_zero]
      refine' wpAnyH_take (i := 3) ?h1x3g ?hsx3g ?hfx3g ?hrx3g ?hQx3g (Or.inl ⟨?hwx3g, ?hyx3g⟩) hS ?restx3g
      case h1x3g => (simp only [List.getElem?_toArray, List.getElem?_cons_succ, List.getElem?_cons_zero]; rfl)
      case hsx3g | hfx3g | hrx3g => kernel_rfl
      case hQx3g => exact fun _ _ _ h => h
      case hwx3g => rfl
      case hyx3g =>
        intro W hW
        go_simp
        try with_reducible rfl
      simp only [Act.put, List.setIfInBounds_toArray, List.set_cons_succ, List.set_cons_zero]
      refine' wpAnyH_take (i := 4) ?h1x4g ?hsx4g ?hfx4g ?hrx4g ?hQx4g (Or.inl ⟨?hwx4g, ?hyx4g⟩) hS ?restx4g
      case h1x4g => (simp only [List.getElem?_toArray, List.getElem?_cons_succ, List.getElem?_cons_zero]; rfl)
      case hsx4g | hfx4g | hrx4g => kernel_rfl
      case hQx4g => exact fun _ _ _ h => h
      case hwx4g => rfl
      case hyx4g =>
        intro W hW
        go_simp
        try with_reducible rfl
      simp only [Act.put, List.setIfInBounds_toArray, List.set_cons_succ, List.set_cons_zero]
      refine' wpAnyH_take (i := 8) ?h1x8g ?hsx8g ?hfx8g ?hrx8g ?hQx8g (Or.inl ⟨?hwx8g, ?hyx8g⟩) hS ?restx8g
      case h1x8g => (simp only [List.getElem?_toArray, List.getElem?_cons_succ, List.getElem?_cons_zero]; rfl)
      case hsx8g | hfx8g | hrx8g => kernel_rfl
      case hQx8g => exact fun _ _ _ h => h
      case hwx8g => rfl
      case hyx8g =>
        intro W hW
        go_simp
        try with_reducible rfl
      simp only [Act.put, List.setIfInBounds_toArray, List.set_cons_succ, List.set_cons_zero]
      refine' wpAnyH_take (i := 9) ?h1x9g ?hsx9g ?hfx9g ?hrx9g ?hQx9g (Or.inl ⟨?hwx9g, ?hyx9g⟩) hS ?restx9g
      case h1x9g => (simp only [List.getElem?_toArray, List.getElem?_cons_succ, List.getElem?_cons_zero]; rfl)
      case hsx9g | hfx9g | hrx9g => kernel_rfl
      case hQx9g => exact fun _ _ _ h => h
      case hwx9g => rfl
      case hyx9g =>
        intro W hW
        go_simp
        try with_reducible rfl
      simp only [Act.put, List.setIfInBounds_toArray, List.set_cons_succ, List.set_cons_zero]
      refine' wpAnyH_take (i := 11) ?h1x11g ?hsx11g ?hfx11g ?hrx11g ?hQx11g (Or.inl ⟨?hwx11g, ?hyx11g⟩) hS ?restx11g
      case h1x11g => (simp only [List.getElem?_toArray, List.getElem?_cons_succ, List.getElem?_cons_zero]; rfl)
      case hsx11g | hfx11g | hrx11g => kernel_rfl
      case hQx11g => exact fun _ _ _ h => h
      case hwx11g => rfl
      case hyx11g =>
        intro W hW
        go_simp
        try with_reducible rfl
      simp only [Act.put, List.setIfInBounds_toArray, List.set_cons_succ, List.set_cons_zero]
      refine' wpAnyH_take (i := 12) ?h1x12g ?hsx12g ?hfx12g ?hrx12g ?hQx12g (Or.inl ⟨?hwx12g, ?hyx12g⟩) hS ?restx12g
      case h1x12g => (simp only [List.getElem?_toArray, List.getElem?_cons_succ, List.getElem?_cons_zero]; rfl)
      case hsx12g | hfx12g | hrx12g => kernel_rfl
      case hQx12g => exact fun _ _ _ h => h
      case hwx12g => rfl
      case hyx12g =>
        intro W hW
        go_simp
        try with_reducible rfl
      simp only [Act.put, List.setIfInBounds_toArray, List.set_cons_succ, List.set_cons_zero]
      refine' wpAnyH_take (i := 5) ?h1x5g ?hsx5g ?hfx5g ?hrx5g ?hQx5g (Or.inl ⟨?hwx5g, ?hyx5g⟩) hS ?restx5g
      case h1x5g => (simp only [List.getElem?_toArray, List.getElem?_cons_succ, List.getElem?_cons_zero]; rfl)
      case hsx5g | hfx5g | hrx5g => kernel_rfl
      case hQx5g => exact fun _ _ _ h => h
      case hwx5g => rfl
      case hyx5g =>
        intro W hW
        have z1 := HW8.out
        have z2 := HW9.out
        go_simp
        try with_reducible rfl
      simp only [Act.put, List.setIfInBounds_toArray, List.set_cons_succ, List.set_cons_zero]
      refine' wpAnyH_take (i := 10) ?h1x10g ?hsx10g ?hfx10g ?hrx10g ?hQx10g (Or.inl ⟨?hwx10g, ?hyx10g⟩) hS ?restx10g
      case h1x10g => (simp only [List.getElem?_toArray, List.getElem?_cons_succ, List.getElem?_cons_zero]; rfl)
      case hsx10g | hfx10g | hrx10g => kernel_rfl
      case hQx10g => exact fun _ _ _ h => h
      case hwx10g => rfl
      case hyx10g =>
        intro W hW
        have z1 := HW8.out
        have z2 := HW9.out
        go_simp
        try with_reducible rfl
      simp only [Act.put, List.setIfInBounds_toArray, List.set_cons_succ, List.set_cons_zero]
      refine' wpAnyH_take (i := 13) ?h1x13g ?hsx13g ?hfx13g ?hrx13g ?hQx13g (Or.inl ⟨?hwx13g, ?hyx13g⟩) hS ?restx13g
      case h1x13g => (simp only [List.getElem?_toArray, List.getElem?_cons_succ, List.getElem?_cons_zero]; rfl)
      case hsx13g | hfx13g | hrx13g => kernel_rfl
      case hQx13g => exact fun _ _ _ h => h
      case hwx13g => rfl
      case hyx13g =>
        intro W hW
        have z1 := HW8.out
        have z2 := HW9.out
        go_simp
        try with_reducible rfl
      simp only [Act.put, List.setIfInBounds_toArray, List.set_cons_succ, List.set_cons_zero]
      refine' wpAnyH_take (i := 6) ?h1x6g ?hsx6g ?hfx6g ?hrx6g ?hQx6g (Or.inl ⟨?hwx6g, ?hyx6g⟩) hS ?restx6g
      case h1x6g => (simp only [List.getElem?_toArray, List.getElem?_cons_succ, List.getElem?_cons_zero]; rfl)
      case hsx6g | hfx6g | hrx6g => kernel_rfl
      case hQx6g => exact fun _ _ _ h => h
      case hwx6g => rfl
      case hyx6g =>
        intro W hW
        have s1 := S1.out W
        go_simp
        try with_reducible rfl
      simp only [Act.put, List.setIfInBounds_toArray, List.set_cons_succ, List.set_cons_zero]
      refine' wpAnyH_take (i := 14) ?h1x14g ?hsx14g ?hfx14g ?hrx14g ?hQx14g (Or.inl ⟨?hwx14g, ?hyx14g⟩) hS ?restx14g
      case h1x14g => (simp only [List.getElem?_toArray, List.getElem?_cons_succ, List.getElem?_cons_zero]; rfl)
      case hsx14g | hfx14g | hrx14g => kernel_rfl
      case hQx14g => exact fun _ _ _ h => h
      case hwx14g => rfl
      case hyx14g =>
        intro W hW
        have s2 := S2.out W
        go_simp
        try with_reducible rfl
      simp only [Act.put, List.setIfInBounds_toArray, List.set_cons_succ, List.set_cons_zero]
      refine wpAnyH_ready (rs := [1, 7]) (by kernel_rfl) (by simp) ?_
      refine' (AllReadyH.cons ?hoc1g (fun K hK => ?stc1g) (AllReadyH.cons ?hoc7g (fun K hK => ?stc7g) AllReadyH.nil))
      case hoc1g => (simp only [List.getElem?_toArray, List.getElem?_cons_succ, List.getElem?_cons_zero]; rfl)
      case hoc7g => (simp only [List.getElem?_toArray, List.getElem?_cons_succ, List.getElem?_cons_zero]; rfl)
      case stc1g =>
        have ck := (cell_row GB.out 1).trans (show (#[Value.bool false, .slice x i c] : Array Value)[1]? = some (.slice x i c) from rfl)
        go_simp
        refine hK.out _ _ hS (fun hHeld => ?_)
        clear hK K
        try simp only [Act.put, List.setIfInBounds_toArray, List.set_cons_succ, List.set_cons_zero]
        clear hS
        have hS := hHeld
        clear hHeld
        refine wpAnyH_ready (rs := [7]) (by kernel_rfl) (by simp) ?_
        refine' (AllReadyH.cons ?hoc7gx1 (fun K hK => ?stc7gx1) AllReadyH.nil)
        case hoc7gx1 => (simp only [List.getElem?_toArray, List.getElem?_cons_succ, List.getElem?_cons_zero]; rfl)
        go_simp
        refine (NC.out Wgs SK1.out).mono ?_
        rintro e Wgx1x7 ⟨rfl, hb⟩
        have GB := Lib.hid ((hb.block _ (blk_lt GB.out)).trans GB.out)
        have SK1 := Lib.hid (SK1.out.below hb)
        have HW4 := Lib.hid (HW4.out.trans (hb.mono HW4.out.size))
        go_wp2_with fail
        refine hK.out _ _ (hS.trans (hb.mono hS.size)) (fun hHeld => ?_)
        clear hK K
        try simp only [Act.put, List.setIfInBounds_toArray, List.set_cons_succ, List.set_cons_zero]
        clear hS
        have hS := hHeld
        clear hHeld
        clear hb
        refine' wpAnyH_take (i := 15) ?h1x15gx1x7 ?hsx15gx1x7 ?hfx15gx1x7 ?hrx15gx1x7 ?hQx15gx1x7 (Or.inl ⟨?hwx15gx1x7, ?hyx15gx1x7⟩) hS ?restx15gx1x7
        case h1x15gx1x7 => (simp only [List.getElem?_toArray, List.getElem?_cons_succ, List.getElem?_cons_zero]; rfl)
        case hsx15gx1x7 | hfx15gx1x7 | hrx15gx1x7 => kernel_rfl
        case hQx15gx1x7 => exact fun _ _ _ h => h
        case hwx15gx1x7 => rfl
        case hyx15gx1x7 =>
          intro W hW
          have bb := b61f key (some ⟨b, o + (a + 8), none⟩) 36 (ca - (a + 8)) W
          go_simp
          try with_reducible rfl
        simp only [Act.put, List.setIfInBounds_toArray, List.set_cons_succ, List.set_cons_zero]
        refine wpAnyH_ready (rs := [16]) (by kernel_rfl) (by simp) ?_
        refine' (AllReadyH.cons ?hoc16gx1x7 (fun K hK => ?stc16gx1x7) AllReadyH.nil)
        case hoc16gx1x7 => (simp only [List.getElem?_toArray, List.getElem?_cons_succ, List.getElem?_cons_zero]; rfl)
        refine step_bs1 rfl 30 1 (.tmp 77) rfl (u := .agg #[.int .u64 key, .slice (some ⟨b, o + (a + 8), none⟩) 36 (ca - (a + 8))]) rfl (bs30 key _ _ _ _) ?_
        have hb := (Below.refl Wgx1x7.heap.size Wgx1x7).alloc (Nat.le_refl _) (.cells #[.int .u64 key, .slice (some ⟨b, o + (a + 8), none⟩) 36 (ca - (a + 8))] 61)
        refine hK.out _ _ (hS.trans (hb.mono hS.size)) (fun hHeld => ?_)
        clear hK K
        try simp only [Act.put, List.setIfInBounds_toArray, List.set_cons_succ, List.set_cons_zero]
        have qGP := heap_alloc_new Wgx1x7 (.cells #[.int .u64 key, .slice (some ⟨b, o + (a + 8), none⟩) 36 (ca - (a + 8))] 61)
        have hgp := hS.size
        have qGB := (hb.block _ (blk_lt GB.out)).trans GB.out
        have qSK1 := SK1.out.below hb
        have qHW4 := HW4.out.trans (hb.mono HW4.out.size)
        clear hS
        have hS := hHeld
        clear hHeld
        clear hb
        clear GB SK1 HW4
        generalize Wgx1x7.alloc (.cells #[.int .u64 key, .slice (some ⟨b, o + (a + 8), none⟩) 36 (ca - (a + 8))] 61) = Wgx1x7x16 at *
        generalize Wgx1x7.heap.size = gp at *
        have GB := Lib.hid qGB
        have SK1 := Lib.hid qSK1
        have HW4 := Lib.hid qHW4
        have GP := Lib.hid qGP
        clear qGB qSK1 qHW4 qGP
        refine wpAnyH_ready (rs := [17]) (by kernel_rfl) (by simp) ?_
        refine' (AllReadyH.cons ?hoc17gx1x7x16 (fun K hK => ?stc17gx1x7x16) AllReadyH.nil)
        case hoc17gx1x7x16 => (simp only [List.getElem?_toArray, List.getElem?_cons_succ, List.getElem?_cons_zero]; rfl)
        obtain ⟨x', c', W5, hrun, hb5, hg5, hstep⟩ := RdR.step R1.out R2.out G1.out G2.out HO.out HBW.out HW4.out GP.out SV0.out KBA.out PI.out HI100.out
        refine step_apq rfl (.tmp 63) (.tmp 78) rfl rfl rfl rfl hrun ?_
        have hS2 := hS.trans (hb5.mono (Nat.le_add_right _ _))
        refine hK.out _ _ hS2 (fun hHeld => ?_)
        clear hK K hrun hb5 hS hS2
        try simp only [Act.put, List.setIfInBounds_toArray, List.set_cons_succ, List.set_cons_zero]
        have hS := hHeld
        clear hHeld
        have G5 := Lib.hid hg5
        have HSTEP := Lib.hid hstep
        clear hg5 hstep
        refine' wpAnyH_take (i := 18) ?h1x18gx1x7x16x17 ?hsx18gx1x7x16x17 ?hfx18gx1x7x16x17 ?hrx18gx1x7x16x17 ?hQx18gx1x7x16x17 (Or.inl ⟨?hwx18gx1x7x16x17, ?hyx18gx1x7x16x17⟩) hS ?restx18gx1x7x16x17
        case h1x18gx1x7x16x17 => (simp only [List.getElem?_toArray, List.getElem?_cons_succ, List.getElem?_cons_zero]; rfl)
        case hsx18gx1x7x16x17 | hfx18gx1x7x16x17 | hrx18gx1x7x16x17 => kernel_rfl
        case hQx18gx1x7x16x17 => exact fun _ _ _ h => h
        case hwx18gx1x7x16x17 => rfl
        case hyx18gx1x7x16x17 =>
          intro W hW
          go_simp
          try with_reducible rfl
        simp only [Act.put, List.setIfInBounds_toArray, List.set_cons_succ, List.set_cons_zero]
        refine wpAnyH_ready (rs := [19]) (by kernel_rfl) (by simp) ?_
        refine' (AllReadyH.cons ?hoc19gx1x7x16x17 (fun K hK => ?stc19gx1x7x16x17) AllReadyH.nil)
        case hoc19gx1x7x16x17 => (simp only [List.getElem?_toArray, List.getElem?_cons_succ, List.getElem?_cons_zero]; rfl)
        have ck := (cell_row G5.out 1).trans (show (#[Value.bool false, .slice x i c] : Array Value)[1]? = some (.slice x i c) from rfl)
        have fz := oc.frozen_block G5.out 1
        have hS2 := hS.setCell (p := ⟨w.heap.size + 1, 1, none⟩) (Nat.le_succ _) (.slice x' (i + 1) c')
        go_simp
        refine hK.out _ _ hS2 (fun hHeld => ?_)
        clear hK K ck fz hS2 hS hHeld G5
        try simp only [Act.put]
        refine wpAnyH_done (by kernel_rfl) ?_ _
        have hi11 : (i : Int) ≤ 100 := by have := HI100.out; omega
        go_wp2_with fail
        go_roundw
        case rel => exact ⟨i + 1, by have := HLT.out; omega, by go_num, HSTEP.out⟩
        case measure => simp [intOf]; have := HLT.out; omega
      case stc7g =>
        go_simp
        refine (NC.out Wgs SK1.out).mono ?_
        rintro e Wgx7 ⟨rfl, hb⟩
        have GB := Lib.hid ((hb.block _ (blk_lt GB.out)).trans GB.out)
        have SK1 := Lib.hid (SK1.out.below hb)
        have HW4 := Lib.hid (HW4.out.trans (hb.mono HW4.out.size))
        go_wp2_with fail
        refine hK.out _ _ (hS.trans (hb.mono hS.size)) (fun hHeld => ?_)
        clear hK K
        try simp only [Act.put, List.setIfInBounds_toArray, List.set_cons_succ, List.set_cons_zero]
        clear hS
        have hS := hHeld
        clear hHeld
        clear hb
        refine' wpAnyH_take (i := 15) ?h1x15gx7 ?hsx15gx7 ?hfx15gx7 ?hrx15gx7 ?hQx15gx7 (Or.inl ⟨?hwx15gx7, ?hyx15gx7⟩) hS ?restx15gx7
        case h1x15gx7 => (simp only [List.getElem?_toArray, List.getElem?_cons_succ, List.getElem?_cons_zero]; rfl)
        case hsx15gx7 | hfx15gx7 | hrx15gx7 => kernel_rfl
        case hQx15gx7 => exact fun _ _ _ h => h
        case hwx15gx7 => rfl
        case hyx15gx7 =>
          intro W hW
          have bb := b61f key (some ⟨b, o + (a + 8), none⟩) 36 (ca - (a + 8)) W
          go_simp
          try with_reducible rfl
        simp only [Act.put, List.setIfInBounds_toArray, List.set_cons_succ, List.set_cons_zero]
        refine wpAnyH_ready (rs := [1, 16]) (by kernel_rfl) (by simp) ?_
        refine' (AllReadyH.cons ?hoc1gx7 (fun K hK => ?stc1gx7) (AllReadyH.cons ?hoc16gx7 (fun K hK => ?stc16gx7) AllReadyH.nil))
        case hoc1gx7 => (simp only [List.getElem?_toArray, List.getElem?_cons_succ, List.getElem?_cons_zero]; rfl)
        case hoc16gx7 => (simp only [List.getElem?_toArray, List.getElem?_cons_succ, List.getElem?_cons_zero]; rfl)
        case stc1gx7 =>
          have ck := (cell_row GB.out 1).trans (show (#[Value.bool false, .slice x i c] : Array Value)[1]? = some (.slice x i c) from rfl)
          go_simp
          refine hK.out _ _ hS (fun hHeld => ?_)
          clear hK K
          try simp only [Act.put, List.setIfInBounds_toArray, List.set_cons_succ, List.set_cons_zero]
          clear hS
          have hS := hHeld
          clear hHeld
          refine wpAnyH_ready (rs := [16]) (by kernel_rfl) (by simp) ?_
          refine' (AllReadyH.cons ?hoc16gx7x1 (fun K hK => ?stc16gx7x1) AllReadyH.nil)
          case hoc16gx7x1 => (simp only [List.getElem?_toArray, List.getElem?_cons_succ, List.getElem?_cons_zero]; rfl)
          refine step_bs1 rfl 30 1 (.tmp 77) rfl (u := .agg #[.int .u64 key, .slice (some ⟨b, o + (a + 8), none⟩) 36 (ca - (a + 8))]) rfl (bs30 key _ _ _ _) ?_
          have hb := (Below.refl Wgx7.heap.size Wgx7).alloc (Nat.le_refl _) (.cells #[.int .u64 key, .slice (some ⟨b, o + (a + 8), none⟩) 36 (ca - (a + 8))] 61)
          refine hK.out _ _ (hS.trans (hb.mono hS.size)) (fun hHeld => ?_)
          clear hK K
          try simp only [Act.put, List.setIfInBounds_toArray, List.set_cons_succ, List.set_cons_zero]
          have qGP := heap_alloc_new Wgx7 (.cells #[.int .u64 key, .slice (some ⟨b, o + (a + 8), none⟩) 36 (ca - (a + 8))] 61)
          have hgp := hS.size
          have qGB := (hb.block _ (blk_lt GB.out)).trans GB.out
          have qSK1 := SK1.out.below hb
          have qHW4 := HW4.out.trans (hb.mono HW4.out.size)
          clear hS
          have hS := hHeld
          clear hHeld
          clear hb
          clear GB SK1 HW4
          generalize Wgx7.alloc (.cells #[.int .u64 key, .slice (some ⟨b, o + (a + 8), none⟩) 36 (ca - (a + 8))] 61) = Wgx7x1x16 at *
          generalize Wgx7.heap.size = gp at *
          have GB := Lib.hid qGB
          have SK1 := Lib.hid qSK1
          have HW4 := Lib.hid qHW4
          have GP := Lib.hid qGP
          clear qGB qSK1 qHW4 qGP
          refine wpAnyH_ready (rs := [17]) (by kernel_rfl) (by simp) ?_
          refine' (AllReadyH.cons ?hoc17gx7x1x16 (fun K hK => ?stc17gx7x1x16) AllReadyH.nil)
          case hoc17gx7x1x16 => (simp only [List.getElem?_toArray, List.getElem?_cons_succ, List.getElem?_cons_zero]; rfl)
          obtain ⟨x', c', W5, hrun, hb5, hg5, hstep⟩ := RdR.step R1.out R2.out G1.out G2.out HO.out HBW.out HW4.out GP.out SV0.out KBA.out PI.out HI100.out
          refine step_apq rfl (.tmp 63) (.tmp 78) rfl rfl rfl rfl hrun ?_
          have hS2 := hS.trans (hb5.mono (Nat.le_add_right _ _))
          refine hK.out _ _ hS2 (fun hHeld => ?_)
          clear hK K hrun hb5 hS hS2
          try simp only [Act.put, List.setIfInBounds_toArray, List.set_cons_succ, List.set_cons_zero]
          have hS := hHeld
          clear hHeld
          have G5 := Lib.hid hg5
          have HSTEP := Lib.hid hstep
          clear hg5 hstep
          refine' wpAnyH_take (i := 18) ?h1x18gx7x1x16x17 ?hsx18gx7x1x16x17 ?hfx18gx7x1x16x17 ?hrx18gx7x1x16x17 ?hQx18gx7x1x16x17 (Or.inl ⟨?hwx18gx7x1x16x17, ?hyx18gx7x1x16x17⟩) hS ?restx18gx7x1x16x17
          case h1x18gx7x1x16x17 => (simp only [List.getElem?_toArray, List.getElem?_cons_succ, List.getElem?_cons_zero]; rfl)
          case hsx18gx7x1x16x17 | hfx18gx7x1x16x17 | hrx18gx7x1x16x17 => kernel_rfl
          case hQx18gx7x1x16x17 => exact fun _ _ _ h => h
          case hwx18gx7x1x16x17 => rfl
          case hyx18gx7x1x16x17 =>
            intro W hW
            go_simp
            try with_reducible rfl
          simp only [Act.put, List.setIfInBounds_toArray, List.set_cons_succ, List.set_cons_zero]
          refine wpAnyH_ready (rs := [19]) (by kernel_rfl) (by simp) ?_
          refine' (AllReadyH.cons ?hoc19gx7x1x16x17 (fun K hK => ?stc19gx7x1x16x17) AllReadyH.nil)
          case hoc19gx7x1x16x17 => (simp only [List.getElem?_toArray, List.getElem?_cons_succ, List.getElem?_cons_zero]; rfl)
          have ck := (cell_row G5.out 1).trans (show (#[Value.bool false, .slice x i c] : Array Value)[1]? = some (.slice x i c) from rfl)
          have fz := oc.frozen_block G5.out 1
          have hS2 := hS.setCell (p := ⟨w.heap.size + 1, 1, none⟩) (Nat.le_succ _) (.slice x' (i + 1) c')
          go_simp
          refine hK.out _ _ hS2 (fun hHeld => ?_)
          clear hK K ck fz hS2 hS hHeld G5
          try simp only [Act.put]
          refine wpAnyH_done (by kernel_rfl) ?_ _
          have hi11 : (i : Int) ≤ 100 := by have := HI100.out; omega
          go_wp2_with fail
          go_roundw
          case rel => exact ⟨i + 1, by have := HLT.out; omega, by go_num, HSTEP.out⟩
          case measure => simp [intOf]; have := HLT.out; omega
        case stc16gx7 =>
          refine step_bs1 rfl 30 1 (.tmp 77) rfl (u := .agg #[.int .u64 key, .slice (some ⟨b, o + (a + 8), none⟩) 36 (ca - (a + 8))]) rfl (bs30 key _ _ _ _) ?_
          have hb := (Below.refl Wgx7.heap.size Wgx7).alloc (Nat.le_refl _) (.cells #[.int .u64 key, .slice (some ⟨b, o + (a + 8), none⟩) 36 (ca - (a + 8))] 61)
          refine hK.out _ _ (hS.trans (hb.mono hS.size)) (fun hHeld => ?_)
          clear hK K
          try simp only [Act.put, List.setIfInBounds_toArray, List.set_cons_succ, List.set_cons_zero]
          have qGP := heap_alloc_new Wgx7 (.cells #[.int .u64 key, .slice (some ⟨b, o + (a + 8), none⟩) 36 (ca - (a + 8))] 61)
          have hgp := hS.size
          have qGB := (hb.block _ (blk_lt GB.out)).trans GB.out
          have qSK1 := SK1.out.below hb
          have qHW4 := HW4.out.trans (hb.mono HW4.out.size)
          clear hS
          have hS := hHeld
          clear hHeld
          clear hb
          clear GB SK1 HW4
          generalize Wgx7.alloc (.cells #[.int .u64 key, .slice (some ⟨b, o + (a + 8), none⟩) 36 (ca - (a + 8))] 61) = Wgx7x16 at *
          generalize Wgx7.heap.size = gp at *
          have GB := Lib.hid qGB
          have SK1 := Lib.hid qSK1
          have HW4 := Lib.hid qHW4
          have GP := Lib.hid qGP
          clear qGB qSK1 qHW4 qGP
          refine wpAnyH_ready (rs := [1]) (by kernel_rfl) (by simp) ?_
          refine' (AllReadyH.cons ?hoc1gx7x16 (fun K hK => ?stc1gx7x16) AllReadyH.nil)
          case hoc1gx7x16 => (simp only [List.getElem?_toArray, List.getElem?_cons_succ, List.getElem?_cons_zero]; rfl)
          have ck := (cell_row GB.out 1).trans (show (#[Value.bool false, .slice x i c] : Array Value)[1]? = some (.slice x i c) from rfl)
          go_simp
          refine hK.out _ _ hS (fun hHeld => ?_)
          clear hK K
          try simp only [Act.put, List.setIfInBounds_toArray, List.set_cons_succ, List.set_cons_zero]
          clear hS
          have hS := hHeld
          clear hHeld
          refine wpAnyH_ready (rs := [17]) (by kernel_rfl) (by simp) ?_
          refine' (AllReadyH.cons ?hoc17gx7x16x1 (fun K hK => ?stc17gx7x16x1) AllReadyH.nil)
          case hoc17gx7x16x1 => (simp only [List.getElem?_toArray, List.getElem?_cons_succ, List.getElem?_cons_zero]; rfl)
          obtain ⟨x', c', W5, hrun, hb5, hg5, hstep⟩ := RdR.step R1.out R2.out G1.out G2.out HO.out HBW.out HW4.out GP.out SV0.out KBA.out PI.out HI100.out
          refine step_apq rfl (.tmp 63) (.tmp 78) rfl rfl rfl rfl hrun ?_
          have hS2 := hS.trans (hb5.mono (Nat.le_add_right _ _))
          refine hK.out _ _ hS2 (fun hHeld => ?_)
          clear hK K hrun hb5 hS hS2
          try simp only [Act.put, List.setIfInBounds_toArray, List.set_cons_succ, List.set_cons_zero]
          have hS := hHeld
          clear hHeld
          have G5 := Lib.hid hg5
          have HSTEP := Lib.hid hstep
          clear hg5 hstep
          refine' wpAnyH_take (i := 18) ?h1x18gx7x16x1x17 ?hsx18gx7x16x1x17 ?hfx18gx7x16x1x17 ?hrx18gx7x16x1x17 ?hQx18gx7x16x1x17 (Or.inl ⟨?hwx18gx7x16x1x17, ?hyx18gx7x16x1x17⟩) hS ?restx18gx7x16x1x17
          case h1x18gx7x16x1x17 => (simp only [List.getElem?_toArray, List.getElem?_cons_succ, List.getElem?_cons_zero]; rfl)
          case hsx18gx7x16x1x17 | hfx18gx7x16x1x17 | hrx18gx7x16x1x17 => kernel_rfl
          case hQx18gx7x16x1x17 => exact fun _ _ _ h => h
          case hwx18gx7x16x1x17 => rfl
          case hyx18gx7x16x1x17 =>
            intro W hW
            go_simp
            try with_reducible rfl
          simp only [Act.put, List.setIfInBounds_toArray, List.set_cons_succ, List.set_cons_zero]
          refine wpAnyH_ready (rs := [19]) (by kernel_rfl) (by simp) ?_
          refine' (AllReadyH.cons ?hoc19gx7x16x1x17 (fun K hK => ?stc19gx7x16x1x17) AllReadyH.nil)
          case hoc19gx7x16x1x17 => (simp only [List.getElem?_toArray, List.getElem?_cons_succ, List.getElem?_cons_zero]; rfl)
          have ck := (cell_row G5.out 1).trans (show (#[Value.bool false, .slice x i c] : Array Value)[1]? = some (.slice x i c) from rfl)
          have fz := oc.frozen_block G5.out 1
          have hS2 := hS.setCell (p := ⟨w.heap.size + 1, 1, none⟩) (Nat.le_succ _) (.slice x' (i + 1) c')
          go_simp
          refine hK.out _ _ hS2 (fun hHeld => ?_)
          clear hK K ck fz hS2 hS hHeld G5
          try simp only [Act.put]
          refine wpAnyH_done (by kernel_rfl) ?_ _
          have hi11 : (i : Int) ≤ 100 := by have := HI100.out; omega
          go_wp2_with fail
          go_roundw
          case rel => exact ⟨i + 1, by have := HLT.out; omega, by go_num, HSTEP.out⟩
          case measure => simp [intOf]; have := HLT.out; omega
    · have hcases : C ≤ i ∨ (i < C ∧ 9 ≤ i ∧ 52 = 44) := by have := HM.out; clear hCw; omega
      obtain rfl : i = m := by omega
      clear hlt
      obtain ⟨Q, q1, q2, q3, q4, q5, q6, q7⟩ := HR.out.fin (PL.out) (by have := HM.out; clear hCw; omega)
      have QI : Hid ((Try.prog.info? 32).map (·.size) = some Q.size) := by show _ = _; rw [q1]; exact info32
      have QO := Lib.hid q2
      have QB := Lib.hid q3
      have QR := Lib.hid q4
      have QS : Hid (Z.size = Q.size) := by show _ = _; rw [ZE.out, q1]; rfl
      have QF := Lib.hid q5
      have QD : Hid (DM wr (.agg Q) (rdD xs)) := by show DM _ _ _; rw [RDX.out]; exact q6
      have QW : Hid (∀ W', Below wr.heap.size wr W' → DM (W'.setRow w.heap.size Q) (.agg Q) (rdD xs) ∧ Below w.heap.size w (W'.setRow w.heap.size Q)) := fun W' h => by rw [RDX.out]; exact q5 W' h
      have QL : Hid ((rdD xs).l.length ≤ 100) := by show _ ≤ _; rw [RDX.out]; show (rdL xs 36 i).length ≤ 100; rw [PL.out]; have := HM.out; clear hCw; omega
      clear q1 q2 q3 q4 q5 q6 q7
      rcases hcases with hge | ⟨hlc, h9, h52⟩
      · have hgei : ¬ (i : Int) < (C : Int) := by omega
        clear hge
        go_upto_region 10 with (fail)
        clear cB
        go_wp2_with (refine wpList_load_row rfl 32 (.tmp 4) rfl (w.heap.size + 1) rfl 32 Q (0, 0) _ QB.out Try.underlying32 rfl QI.out ?_)
        refine (writeD Q (rdD xs) wr QD.out QL.out).mono ?_
        rintro e w4 ⟨v4, rfl, hs4, hb⟩
        have SBW := Lib.hid ((HSEE.out.below HBW.out).below hb)
        have QB4 := Lib.hid ((hb.block _ (blk_lt QB.out)).trans QB.out)
        have QR4 := Lib.hid ((hb.block _ (blk_lt QR.out)).trans QR.out)
        have QR5 : Hid (w4.heap[w.heap.size]? = some (.cells Z 32 (0, 0))) := by show _ = _; rw [ZE.out]; exact QR4.out
        have QFIN := Lib.hid (QW.out w4 hb)
        have BFZ := Lib.hid ((HBW.out.trans (hb.mono HBW.out.size)).trans (below_row (B := w.heap.size) w4 Z (Nat.le_refl _)))
        have RZ := Lib.hid (setRow_heap w4 w.heap.size _ Z 32 _ QR5.out)
        have RQ := Lib.hid (setRow_heap w4 w.heap.size _ Q 32 _ QR5.out)
        clear hb
        cases hr : rightD (rdD xs) with
        | false =>
          have ISN : Hid (isD xs = false) := by show _ = _; rw [ISD.out, hr]; rfl
          rw [hr] at hs4
          simp only [Bool.false_eq_true, if_false]
          obtain ⟨x4, c4, rfl, _⟩ := hs4.form
          clear hs4 hr
          go_upto_region 12 with (fail)
          go_wp2_with (first
            | (refine wpList_blank rfl 32 rfl (BZ.out _) ?_)
            | (refine wpList_store_row rfl 32 (.tmp 2) (.tmp 95) rfl w.heap.size Z rfl rfl 32 Z QR5.out IZ.out rfl OZ.out ?_))
          exact bodyPost_ret (v := .tuple #[.agg Z, .int .i64 3]) (results_cell_tmp Try.results16 _ _ w.heap.size 32 Z (0, 0) _ rfl RZ.out Try.underlying32 rfl IZ.out) rfl
            ⟨Z, by rw [ISN.out]; rfl, by rw [ISN.out]; exact DZ.out _, BFZ.out⟩
        | true =>
          rw [hr] at hs4
          simp only [if_true] at hs4 ⊢
          have STR := Lib.hid (oc.str_eq (wrD (rdD xs)) xs hs4.1 HBY.out)
          have s1 := hs4.str
          have s2 := SBW.out.str
          obtain ⟨x4, c4, rfl, _⟩ := hs4.form
          clear hs4
          obtain ⟨n4, hn4⟩ : ∃ n4, n4 = (wrD (rdD xs)).length := ⟨_, rfl⟩
          rw [← hn4] at s1 ⊢
          clear hn4
          by_cases he : wrD (rdD xs) = xs
          · have ISY : Hid (isD xs = true) := by show _ = _; rw [ISD.out, hr, decide_eq_true he]; rfl
            rw [he] at s1
            have e1 : ((strOfNums xs).toList == (strOfNums xs).toList) = true := beq_self_eq_true _
            have e2 : ((strOfNums xs).toList != (strOfNums xs).toList) = false := by simp
            have HE := Lib.hid he
            clear hr he STR
            go_upto_region 13 with (fail)
            clear s1 s2 e1 e2
            go_wp2_with (first
              | (refine wpList_load_row rfl 32 (.tmp 4) rfl (w.heap.size + 1) rfl 32 Q (0, 0) _ QB4.out Try.underlying32 rfl QI.out ?_)
              | (refine wpList_store_row rfl 32 (.tmp 2) (.tmp 96) rfl w.heap.size Q rfl rfl 32 Z QR5.out QI.out QS.out QO.out ?_))
            exact bodyPost_ret (v := .tuple #[.agg Q, .int .i64 0]) (results_cell_tmp Try.results16 _ _ w.heap.size 32 Q (0, 0) _ rfl RQ.out Try.underlying32 rfl QI.out) rfl
              ⟨Q, by rw [ISY.out]; rfl, by rw [ISY.out]; exact QFIN.out.1, QFIN.out.2⟩
          · have ISN : Hid (isD xs = false) := by show _ = _; rw [ISD.out, hr, decide_eq_false he]; rfl
            have STR2 := STR.out
            rw [decide_eq_false he] at STR2
            generalize strOfNums (wrD (rdD xs)) = T1 at s1 STR2
            generalize strOfNums xs = T2 at s2 STR2
            have e1 : (T1.toList != T2.toList) = true := by rw [bne, STR2]; rfl
            clear hr he STR
            go_upto_region 12 with (fail)
            clear s1 s2 e1 STR2
            go_wp2_with (first
              | (refine wpList_blank rfl 32 rfl (BZ.out _) ?_)
              | (refine wpList_store_row rfl 32 (.tmp 2) (.tmp 95) rfl w.heap.size Z rfl rfl 32 Z QR5.out IZ.out rfl OZ.out ?_))
            exact bodyPost_ret (v := .tuple #[.agg Z, .int .i64 3]) (results_cell_tmp Try.results16 _ _ w.heap.size 32 Z (0, 0) _ rfl RZ.out Try.underlying32 rfl IZ.out) rfl
              ⟨Z, by rw [ISN.out]; rfl, by rw [ISN.out]; exact DZ.out _, BFZ.out⟩
      · have hlci : (i : Int) < (C : Int) := by omega
        have hnf : ¬ (8 + 44 * (i : Int) + 44 ≤ 512) := by clear hCw; omega
        have hi11 : (i : Int) ≤ 11 := by omega
        have hw1 : IntKind.i64.wrap (44 * (i : Int)) = 44 * (i : Int) := IntWalk.i64_in _ (by omega)
        have hw2 : IntKind.i64.wrap (8 + 44 * (i : Int)) = 8 + 44 * (i : Int) := IntWalk.i64_in _ (by omega)
        have hw3 : IntKind.i64.wrap (8 + 44 * (i : Int) + 44) = 8 + 44 * (i : Int) + 44 := IntWalk.i64_in _ (by omega)
        clear hlc h9 h52
        go_upto_region 10 with (fail)
        clear cB
        go_wp2_with (refine wpList_load_row rfl 32 (.tmp 4) rfl (w.heap.size + 1) rfl 32 Q (0, 0) _ QB.out Try.underlying32 rfl QI.out ?_)
        refine (writeD Q (rdD xs) wr QD.out QL.out).mono ?_
        rintro e w4 ⟨v4, rfl, hs4, hb⟩
        have SBW := Lib.hid ((HSEE.out.below HBW.out).below hb)
        have QB4 := Lib.hid ((hb.block _ (blk_lt QB.out)).trans QB.out)
        have QR4 := Lib.hid ((hb.block _ (blk_lt QR.out)).trans QR.out)
        have QR5 : Hid (w4.heap[w.heap.size]? = some (.cells Z 32 (0, 0))) := by show _ = _; rw [ZE.out]; exact QR4.out
        have QFIN := Lib.hid (QW.out w4 hb)
        have BFZ := Lib.hid ((HBW.out.trans (hb.mono HBW.out.size)).trans (below_row (B := w.heap.size) w4 Z (Nat.le_refl _)))
        have RZ := Lib.hid (setRow_heap w4 w.heap.size _ Z 32 _ QR5.out)
        have RQ := Lib.hid (setRow_heap w4 w.heap.size _ Q 32 _ QR5.out)
        clear hb
        cases hr : rightD (rdD xs) with
        | false =>
          have ISN : Hid (isD xs = false) := by show _ = _; rw [ISD.out, hr]; rfl
          rw [hr] at hs4
          simp only [Bool.false_eq_true, if_false]
          obtain ⟨x4, c4, rfl, _⟩ := hs4.form
          clear hs4 hr
          go_upto_region 12 with (fail)
          go_wp2_with (first
            | (refine wpList_blank rfl 32 rfl (BZ.out _) ?_)
            | (refine wpList_store_row rfl 32 (.tmp 2) (.tmp 95) rfl w.heap.size Z rfl rfl 32 Z QR5.out IZ.out rfl OZ.out ?_))
          exact bodyPost_ret (v := .tuple #[.agg Z, .int .i64 3]) (results_cell_tmp Try.results16 _ _ w.heap.size 32 Z (0, 0) _ rfl RZ.out Try.underlying32 rfl IZ.out) rfl
            ⟨Z, by rw [ISN.out]; rfl, by rw [ISN.out]; exact DZ.out _, BFZ.out⟩
        | true =>
          rw [hr] at hs4
          simp only [if_true] at hs4 ⊢
          have STR := Lib.hid (oc.str_eq (wrD (rdD xs)) xs hs4.1 HBY.out)
          have s1 := hs4.str
          have s2 := SBW.out.str
          obtain ⟨x4, c4, rfl, _⟩ := hs4.form
          clear hs4
          obtain ⟨n4, hn4⟩ : ∃ n4, n4 = (wrD (rdD xs)).length := ⟨_, rfl⟩
          rw [← hn4] at s1 ⊢
          clear hn4
          by_cases he : wrD (rdD xs) = xs
          · have ISY : Hid (isD xs = true) := by show _ = _; rw [ISD.out, hr, decide_eq_true he]; rfl
            rw [he] at s1
            have e1 : ((strOfNums xs).toList == (strOfNums xs).toList) = true := beq_self_eq_true _
            have e2 : ((strOfNums xs).toList != (strOfNums xs).toList) = false := by simp
            have HE := Lib.hid he
            clear hr he STR
            go_upto_region 13 with (fail)
            clear s1 s2 e1 e2
            go_wp2_with (first
              | (refine wpList_load_row rfl 32 (.tmp 4) rfl (w.heap.size + 1) rfl 32 Q (0, 0) _ QB4.out Try.underlying32 rfl QI.out ?_)
              | (refine wpList_store_row rfl 32 (.tmp 2) (.tmp 96) rfl w.heap.size Q rfl rfl 32 Z QR5.out QI.out QS.out QO.out ?_))
            exact bodyPost_ret (v := .tuple #[.agg Q, .int .i64 0]) (results_cell_tmp Try.results16 _ _ w.heap.size 32 Q (0, 0) _ rfl RQ.out Try.underlying32 rfl QI.out) rfl
              ⟨Q, by rw [ISY.out]; rfl, by rw [ISY.out]; exact QFIN.out.1, QFIN.out.2⟩
          · have ISN : Hid (isD xs = false) := by show _ = _; rw [ISD.out, hr, decide_eq_false he]; rfl
            have STR2 := STR.out
            rw [decide_eq_false he] at STR2
            generalize strOfNums (wrD (rdD xs)) = T1 at s1 STR2
            generalize strOfNums xs = T2 at s2 STR2
            have e1 : (T1.toList != T2.toList) = true := by rw [bne, STR2]; rfl
            clear hr he STR
            go_upto_region 12 with (fail)
            clear s1 s2 e1 STR2
            go_wp2_with (first
              | (refine wpList_blank rfl 32 rfl (BZ.out _) ?_)
              | (refine wpList_store_row rfl 32 (.tmp 2) (.tmp 95) rfl w.heap.size Z rfl rfl 32 Z QR5.out IZ.out rfl OZ.out ?_))
            exact bodyPost_ret (v := .tuple #[.agg Z, .int .i64 3]) (results_cell_tmp Try.results16 _ _ w.heap.size 32 Z (0, 0) _ rfl RZ.out Try.underlying32 rfl IZ.out) rfl
              ⟨Z, by rw [ISN.out]; rfl, by rw [ISN.out]; exact DZ.out _, BFZ.out⟩
theorem readD (v : Value) (xs : List Int) (w : World) (hv : Sees w v xs) : Calls Try.prog 16 #[v] w (ReadDP w xs) := by
  by_cases hl : xs.length = 512
  · by_cases h1 : nth xs 0 < 1
    · exact readD_b0 v xs w hv hl h1
    · by_cases h2 : 2 < nth xs 0
      · exact readD_b2 v xs w hv hl h2
      · by_cases h3 : 11 < nth xs 1
        · exact readD_b11 v xs w hv hl (by omega) (by omega) h3
        · by_cases h4 : nth xs 0 = 1
          · exact readD_true v xs w hv hl h4 (by omega)
          · exact readD_false v xs w hv hl (by omega) (by omega)
  · exact readD_len v xs w hv hl
end Go.Proofs.Ytnifaldgofmciaa
