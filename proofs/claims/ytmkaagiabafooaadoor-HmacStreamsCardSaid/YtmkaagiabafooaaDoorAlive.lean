/-
  Contracts of the functions that the statements of package sha go through: what must come of fixed calls. Condition: the two tables hold what they hold.
-/
import Derived.Test.YtmkaagiabafooaaDoorSums
import Derived.Stop.BytesEq
import Derived.Lib.SlBytesConst
namespace Go.Proofs.YtmkaagiabafooaaDoor
open Go.RowKit
theorem cells_tob (xs : List Int) (h : Byt xs) : bcells xs = ((tob xs).map Extern.Stop.cell).toArray := by
  unfold bcells tob
  rw [List.map_map]
  congr 1
  apply List.map_congr_left
  intro x hx
  have := h x hx
  simp only [Function.comp_def, Extern.Stop.cell]
  congr 1
  simp
  omega
theorem eq27 (xs ys : List Int) (hx : Byt xs) (hy : Byt ys) (lx : xs.length = 32) (ly : ys.length = 32) (w : World) : (Op.equalIn 10000 27 (.agg (bcells xs)) (.agg (bcells ys))).run Tryd.prog w = .ok (decide (xs = ys)) w := by
  have h := run_equalIn_bytes (P := Tryd.prog) w 9998 27 5 32 (by kernel_rfl) Tryd.underlying5 (fun _ => by kernel_rfl) (tob xs) (tob ys) (by simp [tob, lx]) (by simp [tob, ly])
  rw [← cells_tob xs hx, ← cells_tob ys hy] at h
  rw [h]
  congr 1
  by_cases e : xs = ys
  · subst e; simp
  · have : tob xs ≠ tob ys := fun h => e (tob_inj hx hy h)
    simp [e, this]
theorem eq27_same (xs : List Int) (hx : Byt xs) (lx : xs.length = 32) (w : World) : (Op.equalIn 10000 27 (.agg (bcells xs)) (.agg (bcells xs))).run Tryd.prog w = .ok true w := by
  rw [eq27 xs xs hx hx lx lx w]; simp
theorem sha_abc : sha [97, 98, 99] = [186, 120, 22, 191, 143, 1, 207, 234, 65, 65, 64, 222, 93, 174, 34, 35, 176, 3, 97, 163, 150, 23, 122, 156, 180, 16, 255, 97, 242, 0, 21, 173] := by decide +kernel
theorem sha_nil : sha [] = [227, 176, 196, 66, 152, 252, 28, 20, 154, 251, 244, 200, 153, 111, 185, 36, 39, 174, 65, 228, 100, 155, 147, 76, 164, 149, 153, 27, 120, 82, 184, 85] := by decide +kernel
theorem byt3 : Byt [97, 98, 99] := byt_of _ (by decide)
theorem byt2 : Byt [97, 98] := byt_of _ (by decide)
theorem byt1 : Byt [99] := byt_of _ (by decide)
theorem sees_lit {w : World} (cs : Array Value) (xs : List Int) (hc : cs = bcells xs) (hb : Byt xs) (n : Nat) (hn : n = xs.length) (hm : xs.length ≤ maxLen) : Sees (w.alloc (.cells cs 5)) (.slice (some ⟨w.heap.size, 0, none⟩) n n) xs :=
  sees_new w cs xs hc hb hm _ rfl n hn
theorem glob_alloc {w : World} (h : Glob w) (o : Obj) : Glob (w.alloc o) := h.below (b := w.heap.size) ((Below.refl _ _).alloc (Nat.le_refl _) _) (by have := h.lt; omega)
theorem conv22 (w : World) (C : Array Value) (n c : Nat) : (convert 22 22 (.slice (some ⟨w.heap.size, 0, none⟩) n c)).run Tryd.prog (w.alloc (.cells C 5)) = .ok (.slice (some ⟨w.heap.size, 0, none⟩) n c) (w.alloc (.cells C 5 (C.size, C.size + 1))) :=
  Lib.run_convert_bytes_const (P := Tryd.prog) w 22 5 C n c Tryd.underlying22 Tryd.underlying5
theorem sees_mark {w : World} (cs : Array Value) (xs : List Int) (hc : cs = bcells xs) (hb : Byt xs) (n : Nat) (hn : n = xs.length) (hm : xs.length ≤ maxLen) (fr : Nat × Nat) : Sees (w.alloc (.cells cs 5 fr)) (.slice (some ⟨w.heap.size, 0, none⟩) n n) xs := by
  subst hc hn
  refine ⟨hb, ?_⟩
  by_cases h0 : xs = []
  · subst h0; exact .inr (.inl ⟨_, _, rfl, rfl, by simp [maxLen]⟩)
  · refine .inr (.inr ⟨_, _, _, rfl, h0, Nat.le_refl _, hm, fun i hi => ?_⟩)
    rw [cell_of_row _ _ _ _ _ _ (heap_alloc_new w _)]
    simp [bcells, nth, hi, List.getD]
theorem HSat.below {w w' : World} {g : Nat} {s : HSt} {c : Int} (h : HSat w g s c) (hb : Below w.heap.size w w') : HSat w' g s c := ⟨h.1, by rw [hb.block _ (blk_lt h.2)]; exact h.2⟩
/-- A row that is read in a plain region, where a guard lets it by. -/
theorem wpList_load_want {P : Program} {ops : Array Oper} {rest : List Oper} {op : Oper} {a : Act} {w : World} {Q : Exit → Act → World → Prop} (hw : Region.wanted op (yielded ops a.tmps) = true) (ty : TypeId) (x : Operand) (ho : op.op = .load ty x)
    (b o : Nat) (hx : a.eval x = .pointer (some ⟨b, o, none⟩)) (cs : List Value) (d : TypeDesc) (hc : w.rangeAt b o cs)
    (hu : P.underlying ty = some d) (hd : d.isRow = true) (hi : (P.info? ty).map (·.size) = some cs.length)
    (h : wpList P ops Q rest (a.put op.dst (.agg cs.toArray)) w) : wpList P ops Q (op :: rest) a w :=
  wpList_step fun K hK => by
    rw [if_pos hw]
    exact wp_load_mid ty x ho b o hx cs d hc hu hd hi (hK _ _ h)
/-- A row of 32 bytes in a block. -/
def Row27 (w : World) (g : Nat) (xs : List Int) : Prop := w.heap[g]? = some (.cells (bcells xs) 27 (0, 0))
theorem Row27.below {w w' : World} {g : Nat} {xs : List Int} (h : Row27 w g xs) (hb : Below w.heap.size w w') : Row27 w' g xs := by
  unfold Row27; rw [hb.block _ (blk_lt h)]; exact h
theorem Row27.grown {w w' : World} {g k : Nat} {xs : List Int} (h : Row27 w g xs) (hb : w.grownBy w' (some k)) (hne : g ≠ k) : Row27 w' g xs := by
  unfold Row27; rw [hb.block _ (blk_lt h) (by intro e; exact hne (Option.some.inj e))]; exact h
theorem Row27.cell {w : World} {g : Nat} {xs : List Int} (h : Row27 w g xs) (i : Nat) (hi : i < xs.length) : w.cell? ⟨g, i, none⟩ = some (.int .u8 (nth xs i)) := by
  rw [cell_of_row _ _ _ _ _ _ h]; simp [bcells, nth, List.getD, hi]
theorem Row27.range {w : World} {g : Nat} {xs : List Int} (h : Row27 w g xs) : w.rangeAt g 0 (bcells xs).toList := fun j v hv => by rw [Nat.zero_add, cell_of_row _ _ _ _ _ _ h]; simpa using hv
theorem len27' (xs : List Int) (hl : xs.length = 32) : (Tryd.prog.info? 27).map (·.size) = some (bcells xs).toList.length := by rw [i27]; simp [bcells, hl]
theorem Row27.load {w : World} {g : Nat} {xs : List Int} (h : Row27 w g xs) (hl : xs.length = 32) : (Instr.loadAt 27 (.pointer (some ⟨g, 0, none⟩))).run Tryd.prog w = .ok (.agg (bcells xs)) w := by
  have hr : w.rangeAt g 0 (bcells xs).toList := fun j v hv => by rw [Nat.zero_add, cell_of_row _ _ _ _ _ _ h]; simpa using hv
  have := run_loadAt_mid (P := Tryd.prog) w g 0 27 (bcells xs).toList _ hr Tryd.underlying27 rfl (by rw [i27]; simp [bcells, hl])
  simpa using this
set_option maxRecDepth 100000 in
set_option maxHeartbeats 4000000 in
theorem alive (w : World) (hG : Glob w) : Calls Tryd.prog 13 #[] w fun e w' => e = .returned (.bool true) ∧ Below w.heap.size w w' := by
  have z27 := zv27
  obtain ⟨Z27, hZ27⟩ : ∃ Z, Z = bcells (List.replicate 32 0) := ⟨_, rfl⟩
  rw [← hZ27] at z27
  have hsz := hG.lt
  have h2 : 2 ≤ w.heap.size := by omega
  -- the two sums, by name
  obtain ⟨A, hA⟩ : ∃ A, A = sha [97, 98, 99] := ⟨_, rfl⟩
  obtain ⟨B, hB⟩ : ∃ B, B = sha [] := ⟨_, rfl⟩
  have lA : A.length = 32 := by rw [hA]; exact sha_len _ byt3
  have lB : B.length = 32 := by rw [hB]; exact sha_len _ (fun _ h => by simp at h)
  have bA : Byt A := by rw [hA]; exact sha_byt _
  have nA : nth A 0 = 186 ∧ nth A 1 = 120 ∧ nth A 2 = 22 ∧ nth A 3 = 191 := by rw [hA, sha_abc]; exact ⟨rfl, rfl, rfl, rfl⟩
  have nB : nth B 0 = 227 ∧ nth B 1 = 176 := by rw [hB, sha_nil]; exact ⟨rfl, rfl⟩
  have iA : (Tryd.prog.info? 27).map (·.size) = some (bcells A).size := by rw [i27, bsize, lA]
  have iB : (Tryd.prog.info? 27).map (·.size) = some (bcells B).size := by rw [i27, bsize, lB]
  have zA : Z27.size = (bcells A).size := by rw [hZ27, bsize, bsize, lA, List.length_replicate]
  have zB : Z27.size = (bcells B).size := by rw [hZ27, bsize, bsize, lB, List.length_replicate]
  have S1 : Hid (∀ W v, Glob W → Sees W v [97, 98, 99] → Calls Tryd.prog 14 #[v] W fun e w' => e = .returned (.agg (bcells A)) ∧ Below W.heap.size W w') := fun W v hg hv => by
    have h := sum1 v _ W hv (by simp) hg; rw [← hA] at h; exact h
  have S0 : Hid (∀ W, Glob W → Calls Tryd.prog 14 #[.slice none 0 0] W fun e w' => e = .returned (.agg (bcells B)) ∧ Below W.heap.size W w') := fun W hg => by
    have h := sum1 (.slice none 0 0) [] W (sees_nil W) (by simp) hg; rw [← hB] at h; exact h
  have hABC : sumOf (puts (puts h0 [97, 98]) [99]) 3 = A := by rw [hA, ← puts_append]; rfl
  have HABC := Lib.hid hABC
  have EQ := Lib.hid (eq27_same A bA lA)
  have IA := Lib.hid iA
  have IB := Lib.hid iB
  have ZA := Lib.hid zA
  have ZB := Lib.hid zB
  have OA := Lib.hid (bone A)
  have OB := Lib.hid (bone B)
  have NA := Lib.hid nA
  have NB := Lib.hid nB
  have LA := Lib.hid lA
  have LB := Lib.hid lB
  have HGL := Lib.hid hG
  have H2 := Lib.hid h2
  clear hZ27 hsz hA hB lA lB bA nA nB iA iB zA zB hABC hG h2
  have cv := conv22
  go_enter Tryd.func13, Tryd.ntmps13
  go_wp2_with fail
  have s0 : Sees (w.alloc (.cells #[.int .u8 97, .int .u8 98, .int .u8 99] 5 (3, 4))) (.slice (some ⟨w.heap.size, 0, none⟩) 3 3) [97, 98, 99] := sees_mark _ _ rfl byt3 3 rfl (by decide) _
  have b0 : Below w.heap.size w (w.alloc (.cells #[.int .u8 97, .int .u8 98, .int .u8 99] 5 (3, 4))) := (Below.refl _ _).alloc (Nat.le_refl _) _
  have B0 := Lib.hid b0
  refine (S1.out _ _ (glob_alloc HGL.out _) s0).mono ?_
  rintro e w1 ⟨rfl, hb⟩
  have B1 : Hid (Below w.heap.size w w1) := b0.trans (hb.mono b0.size)
  clear hb s0 b0 B0
  go_wp2_with fail
  refine (S0.out _ (HGL.out.below B1.out H2.out)).mono ?_
  rintro e w2 ⟨rfl, hb⟩
  have B2 : Hid (Below w.heap.size w w2) := B1.out.trans (hb.mono B1.out.size)
  clear hb B1
  have g0 : ((w2.alloc (.cells Z27 27)).alloc (.cells Z27 27)).heap[w2.heap.size]? = some (.cells Z27 27 (0, 0)) := by
    rw [Below.heap_alloc _ _ _ (by simp)]; exact heap_alloc_new w2 _
  have g1 : (((w2.alloc (.cells Z27 27)).alloc (.cells Z27 27)).setRow w2.heap.size (bcells A)).heap[w2.heap.size + 1]? = some (.cells Z27 27 (0, 0)) := by
    rw [setRow_other _ _ _ _ (by omega)]; exact heap_alloc2_new w2 _ _
  have G0 := Lib.hid g0
  have G1 := Lib.hid g1
  clear g0 g1
  go_wp2_with (first
    | (refine wpList_store_row rfl 27 (.tmp 1) (.tmp 8) rfl w2.heap.size (bcells A) rfl rfl 27 Z27 G0.out IA.out ZA.out OA.out ?_)
    | (refine wpList_store_row rfl 27 (.tmp 2) (.tmp 9) rfl (w2.heap.size + 1) (bcells B) rfl rfl 27 Z27 G1.out IB.out ZB.out OB.out ?_))
  have rA : Row27 ((((w2.alloc (.cells Z27 27)).alloc (.cells Z27 27)).setRow w2.heap.size (bcells A)).setRow (w2.heap.size + 1) (bcells B)) w2.heap.size A := by
    unfold Row27
    rw [setRow_other _ _ _ _ (by omega)]; exact setRow_heap _ _ _ _ _ _ G0.out
  have rB : Row27 ((((w2.alloc (.cells Z27 27)).alloc (.cells Z27 27)).setRow w2.heap.size (bcells A)).setRow (w2.heap.size + 1) (bcells B)) (w2.heap.size + 1) B := setRow_heap _ _ _ _ _ _ G1.out
  have b3 : Below w.heap.size w ((((w2.alloc (.cells Z27 27)).alloc (.cells Z27 27)).setRow w2.heap.size (bcells A)).setRow (w2.heap.size + 1) (bcells B)) :=
    ((((B2.out.alloc B2.out.size _).alloc (by have := B2.out.size; simp; omega) _).trans (below_row _ _ B2.out.size)).trans (below_row _ _ (by have := B2.out.size; omega)))
  generalize ((((w2.alloc (.cells Z27 27)).alloc (.cells Z27 27)).setRow w2.heap.size (bcells A)).setRow (w2.heap.size + 1) (bcells B)) = w3 at rA rB b3 ⊢
  have RA := Lib.hid rA
  have RB := Lib.hid rB
  have B3 := Lib.hid b3
  clear rA rB b3 G0 G1
  refine (newh w3 (HGL.out.below B3.out H2.out)).mono ?_
  rintro e w4 ⟨rfl, hw4⟩
  have st4 := new_at w3
  rw [hw4] at st4
  have b34 : Below w3.heap.size w3 w4 := by rw [← hw4]; exact (Below.refl _ _).alloc (Nat.le_refl _) _
  have ST4 := Lib.hid st4
  have B34 := Lib.hid b34
  clear st4 b34 hw4
  go_wp2_with fail
  have hg2 : 2 ≤ w3.heap.size := Nat.le_trans H2.out B3.out.size
  have q5 : Below w4.heap.size w4 (w4.alloc (.cells #[.int .u8 97, .int .u8 98] 5 (2, 3))) := (Below.refl _ _).alloc (Nat.le_refl _) _
  have b5 : Below w3.heap.size w3 (w4.alloc (.cells #[.int .u8 97, .int .u8 98] 5 (2, 3))) := B34.out.trans (q5.mono B34.out.size)
  have s5 : Sees (w4.alloc (.cells #[.int .u8 97, .int .u8 98] 5 (2, 3))) (.slice (some ⟨w4.heap.size, 0, none⟩) 2 2) [97, 98] := sees_mark _ _ rfl byt2 2 rfl (by decide) _
  have hlt4 : w3.heap.size < w4.heap.size := blk_lt ST4.out.2
  refine (write w3.heap.size h0 0 _ [97, 98] _ (ST4.out.below q5) s5 (fun _ => by simp [Value.ownBlock]; omega) (by simp) hg2 ((HGL.out.below B3.out H2.out).below b5 hg2)).mono ?_
  rintro e w6 ⟨rfl, st6, gr6⟩
  have b6 : Below w3.heap.size w3 w6 := b5.grown gr6 b5.size (fun k e => by rw [← Option.some.inj e]; exact Nat.le_refl _)
  have B6 := Lib.hid b6
  have ST6 := Lib.hid st6
  have HG2 := Lib.hid hg2
  clear b5 q5 s5 hlt4 st6 gr6 b6 hg2 ST4 B34
  go_wp2_with fail
  have q7 : Below w6.heap.size w6 (w6.alloc (.cells #[.int .u8 99] 5 (1, 2))) := (Below.refl _ _).alloc (Nat.le_refl _) _
  have b7 : Below w3.heap.size w3 (w6.alloc (.cells #[.int .u8 99] 5 (1, 2))) := B6.out.trans (q7.mono B6.out.size)
  have s7 : Sees (w6.alloc (.cells #[.int .u8 99] 5 (1, 2))) (.slice (some ⟨w6.heap.size, 0, none⟩) 1 1) [99] := sees_mark _ _ rfl byt1 1 rfl (by decide) _
  have hlt6 : w3.heap.size < w6.heap.size := blk_lt ST6.out.2
  refine (write w3.heap.size (puts h0 [97, 98]) 2 _ [99] _ (ST6.out.below q7) s7 (fun _ => by simp [Value.ownBlock]; omega) (by simp) HG2.out ((HGL.out.below B3.out H2.out).below b7 HG2.out)).mono ?_
  rintro e w8 ⟨rfl, st8, gr8⟩
  have b8 : Below w3.heap.size w3 w8 := b7.grown gr8 b7.size (fun k e => by rw [← Option.some.inj e]; exact Nat.le_refl _)
  have hs8 := sumh w3.heap.size (puts (puts h0 [97, 98]) [99]) 3 (by omega) w8 st8 ((HGL.out.below B3.out H2.out).below b8 HG2.out)
  rw [HABC.out] at hs8
  have B8 := Lib.hid b8
  have HS8 := Lib.hid hs8
  clear q7 b7 s7 hlt6 st8 gr8 b8 hs8 ST6 B6
  go_wp2_with fail
  refine HS8.out.mono ?_
  rintro e w9 ⟨rfl, hb⟩
  have b9 : Below w3.heap.size w3 w9 := B8.out.trans (hb.mono B8.out.size)
  have b10 : Below w3.heap.size w3 ((w9.alloc (.cells Z27 27)).setRow w9.heap.size (bcells A)) := (b9.alloc b9.size _).trans (below_row _ _ b9.size)
  have r10 : Row27 ((w9.alloc (.cells Z27 27)).setRow w9.heap.size (bcells A)) w9.heap.size A := setRow_heap _ _ _ _ _ _ (heap_alloc_new w9 _)
  have ra : Row27 ((w9.alloc (.cells Z27 27)).setRow w9.heap.size (bcells A)) w2.heap.size A := RA.out.below b10
  have rb : Row27 ((w9.alloc (.cells Z27 27)).setRow w9.heap.size (bcells A)) (w2.heap.size + 1) B := RB.out.below b10
  have a0 := ra.cell 0 (by rw [LA.out]; omega)
  have a1 := ra.cell 1 (by rw [LA.out]; omega)
  have a2 := ra.cell 2 (by rw [LA.out]; omega)
  have a3 := ra.cell 3 (by rw [LA.out]; omega)
  have c0 := rb.cell 0 (by rw [LB.out]; omega)
  have c1 := rb.cell 1 (by rw [LB.out]; omega)
  rw [NA.out.1] at a0
  rw [NA.out.2.1] at a1
  rw [NA.out.2.2.1] at a2
  rw [NA.out.2.2.2] at a3
  rw [NB.out.1] at c0
  rw [NB.out.2] at c1
  have RR1 := Lib.hid ra.range
  have RR4 := Lib.hid r10.range
  have LL := Lib.hid (len27' A LA.out)
  have eq := EQ.out
  clear ra rb
  have R10 := Lib.hid r10
  have B10 := Lib.hid b10
  clear hb b9 b10 r10 B8 HS8
  go_wp2_with (first
    | (refine wpList_store_row rfl 27 (.tmp 4) (.tmp 24) rfl w9.heap.size (bcells A) rfl rfl 27 Z27 (heap_alloc_new w9 _) IA.out ZA.out OA.out ?_)
    | (refine wpList_load_want (by rfl) 27 (.tmp 4) rfl w9.heap.size 0 rfl (bcells A).toList _ RR4.out Tryd.underlying27 rfl LL.out ?_)
    | (refine wpList_load_want (by rfl) 27 (.tmp 1) rfl w2.heap.size 0 rfl (bcells A).toList _ RR1.out Tryd.underlying27 rfl LL.out ?_))
  go_ret
  exact ⟨rfl, B3.out.trans (B10.out.mono B3.out.size)⟩
end Go.Proofs.YtmkaagiabafooaaDoor
