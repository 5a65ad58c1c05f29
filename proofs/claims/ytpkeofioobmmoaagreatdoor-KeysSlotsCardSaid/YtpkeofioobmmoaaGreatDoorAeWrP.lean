/-
  Contracts of package wrap, up to both turns, and that each undoes the other. Condition: the numbers are bytes.
-/
import Derived.Test.YtpkeofioobmmoaaGreatDoorAeXtsC
import Derived.StillTailTactics
namespace Go.Proofs.YtpkeofioobmmoaaGreatDoor.ae
open Go.RowKit
set_option maxRecDepth 100000 in
theorem mul_prev {m n : Nat} (h : n ∣ m) (h0 : m ≠ 0) : n ≤ m := Nat.le_of_dvd (by omega) h
set_option maxRecDepth 100000 in
theorem len64 (w : World) : Calls Tryz.prog 78 #[.int .u64 18446744073709551615] w fun e w' => e = .returned (.int .i64 64) ∧ w = w' := by
  go_enter Tryz.func78, Tryz.ntmps78
  go_wp2_with fail
  go_ret
  exact ⟨by kernel_rfl, rfl⟩
set_option maxRecDepth 100000 in
theorem width64 (w : World) : Calls Tryz.prog 58 #[] w fun e w' => e = .returned (.int .i64 8) ∧ w = w' := by
  have hs : IntKind.u64.signed = false := rfl
  have h1 : IntKind.u64.wrap (bits BinOp.xor IntKind.u64 IntKind.u64.max 0) = 18446744073709551615 := by kernel_rfl
  have h2 : bits BinOp.xor IntKind.u64 IntKind.u64.max 0 = 18446744073709551615 := by kernel_rfl
  go_enter Tryz.func58, Tryz.ntmps58
  go_wp2_with (go_at_call 78; refine (len64 _).mono ?_; rintro e w' ⟨rfl, rfl⟩)
  go_ret
  exact ⟨rfl, rfl⟩
set_option maxRecDepth 100000 in
theorem mk8 (w : World) : (Instr.makeSlice 31 (.int .i64 8) (.int .i64 8)).run Tryz.prog w = .ok (.slice (some ⟨w.heap.size, 0, none⟩) 8 8) (w.alloc (.cells #[.int .u8 0, .int .u8 0, .int .u8 0, .int .u8 0, .int .u8 0, .int .u8 0, .int .u8 0, .int .u8 0] 5)) := by kernel_rfl
set_option maxRecDepth 100000 in
set_option maxHeartbeats 2000000 in
theorem put64 (v : Int) (h0 : 0 ≤ v) (h1 : v ≤ 18446744073709551615) (w : World) : Calls Tryz.prog 38 #[.int .u64 v] w fun e w' => e = .returned (.slice (some ⟨w.heap.size, 0, none⟩) 8 8) ∧
    w' = w.alloc (.cells #[.int .u8 (v / 72057594037927936), .int .u8 (v / 281474976710656 % 256), .int .u8 (v / 1099511627776 % 256), .int .u8 (v / 4294967296 % 256), .int .u8 (v / 16777216 % 256), .int .u8 (v / 65536 % 256), .int .u8 (v / 256 % 256), .int .u8 (v % 256)] 5) := by
  have hmk := mk8
  go_enter Tryz.func38, Tryz.ntmps38
  go_wp2_with (go_at_call 58; refine (width64 _).mono ?_; rintro e w' ⟨rfl, rfl⟩)
  refine wp_loop_rounds 9 ?_
  rw [rounds_succ]
  go_wp2_with fail
  rw [rounds_succ]
  go_wp2_with fail
  rw [rounds_succ]
  go_wp2_with fail
  rw [rounds_succ]
  go_wp2_with fail
  rw [rounds_succ]
  go_wp2_with fail
  rw [rounds_succ]
  go_wp2_with fail
  rw [rounds_succ]
  go_wp2_with fail
  rw [rounds_succ]
  go_wp2_with fail
  rw [rounds_succ]
  go_wp2_with fail
  go_ret
  exact ⟨rfl, rfl⟩
/-- Words in a row of bytes, which may have room behind. -/
def WR (w : World) (q : Nat) (l : List Nat) (cs : Array Value) : Prop := w.heap[q]? = some (.cells cs 5 (0, 0)) ∧ l.length ≤ cs.size ∧ ∀ j, j < l.length → cs[j]? = some (.int .u8 (at_ l j : Nat))
set_option maxRecDepth 100000 in
theorem WR.below {w w' : World} {q : Nat} {l : List Nat} {cs : Array Value} (h : WR w q l cs) (hb : Below w.heap.size w w') : WR w' q l cs := ⟨(hb.block _ (blk_lt h.1)).trans h.1, h.2⟩
set_option maxRecDepth 100000 in
theorem WR.cell {w : World} {q : Nat} {l : List Nat} {cs : Array Value} (h : WR w q l cs) {j : Nat} (hj : j < l.length) : w.cell? ⟨q, j, none⟩ = some (.int .u8 (at_ l j : Nat)) := by rw [cell_of_row _ _ _ _ _ _ h.1]; exact h.2.2 j hj
set_option maxRecDepth 100000 in
theorem arr16_to8 (g : Nat) (W : World) : (Instr.sliceAt 77 (.pointer (some ⟨g, 0, none⟩)) none (some (.int .i64 8)) none).run Tryz.prog W = .ok (.slice (some ⟨g, 0, none⟩) 8 16) W := by
  rw [run_sliceAt_array_h W 77 ⟨g, 0, none⟩ und47 .i64 8 (by omega) (by rw [len47]; omega), size47]
  simp [Result.andThen, slicedAt, len47, addr_add]
set_option maxRecDepth 100000 in
theorem arr16_from8 (g : Nat) (W : World) : (Instr.sliceAt 77 (.pointer (some ⟨g, 0, none⟩)) (some (.int .i64 8)) none none).run Tryz.prog W = .ok (.slice (some ⟨g, 8, none⟩) 8 8) W := arr16_from g 8 8 rfl (by omega) W
set_option maxRecDepth 100000 in
theorem sl_from0 (b l cap i : Nat) (hi : i < l) (hc : l ≤ cap) (W : World) : (Instr.slice 31 (.slice (some ⟨b, 0, none⟩) l cap) (some (.int .i64 i)) none none).run Tryz.prog W = .ok (.slice (some ⟨b, i, none⟩) (l - i) (cap - i)) W := by
  rw [run_slice_l W 31 (some ⟨b, 0, none⟩) l cap (by kernel_rfl) .i64 i (by omega) (by omega), size5']
  have e : ¬ cap = i := by omega
  simp [Result.andThen, sliced, e, addr_add]
set_option maxRecDepth 100000 in
/-- Bytes are copied into a row. -/
theorem copyL {w : World} {g off m dLen dCap sLen sCap b o : Nat} {D S : List Nat} {t ty : TypeId} (hg : w.heap[g]? = some (.cells (ncells D) t (0, 0))) (hs : S.length = m) (hm : m = Nat.min sLen dLen) (hsrc : ∀ j, j < m → w.cell? ⟨b, o + j, none⟩ = some (.int .u8 (at_ S j : Nat))) (hfit : off + m ≤ D.length) :
    (Builtin.copy_ #[31, 31] ty #[.slice (some ⟨g, off, none⟩) dLen dCap, .slice (some ⟨b, o, none⟩) sLen sCap]).run Tryz.prog w = .ok (.int .i64 m) (w.setRow g (ncells (D.take off ++ S ++ D.drop (off + m)))) := by
  have h := run_copy_row Tryz.prog w 31 31 ty 5 g off dLen dCap ⟨b, o, none⟩ sLen sCap (ncells D) t (S.map fun n : Nat => Value.int .u8 (n : Int)) Tryz.underlying31 info5s hg (by rw [List.length_map, hs, hm])
    (fun j v hj => by
      rw [List.getElem?_map] at hj
      have hj' : j < m := by
        rcases Nat.lt_or_ge j S.length with h | h
        · omega
        · rw [List.getElem?_eq_none h] at hj; simp at hj
      rw [addr_add, hsrc j hj']
      rw [List.getElem?_eq_getElem (by omega)] at hj
      simp at hj
      rw [← hj]
      simp [at_, List.getD, hs, hj'])
    (by rw [List.length_map, hs, nsize]; exact hfit) (fun v hv => by simp at hv; obtain ⟨_, _, rfl⟩ := hv; rfl)
  rw [h]
  simp [goInt, ncells, hs, List.map_take, List.map_drop]
/-- The word in front, and the word i. -/
def pr (l : List Nat) (i : Nat) : List Nat := l.take 8 ++ (l.drop (8 * i)).take 8
set_option maxRecDepth 100000 in
theorem pr_len {l : List Nat} {n i : Nat} (hl : l.length = 8 * (n + 1)) (hi : i ≤ n) : (pr l i).length = 16 := by
  unfold pr; rw [List.length_append, List.length_take, List.length_take, List.length_drop]; omega
set_option maxRecDepth 100000 in
set_option maxHeartbeats 4000000 in
theorem pairC (l : List Nat) (n i q cap : Nat) (cs : Array Value) (w : World) (h : WR w q l cs) (hl : l.length = 8 * (n + 1)) (hi : i ≤ n) (hn : n ≤ 100) (hcap : 8 * (n + 1) ≤ cap) :
    Calls Tryz.prog 46 #[.slice (some ⟨q, 0, none⟩) (8 * (n + 1)) cap, .int .i64 i] w fun e w' => e = .returned (.agg (ncells (pr l i))) ∧ Below w.heap.size w w' := by
  have zz := zero47
  obtain ⟨Z, hZ⟩ : ∃ Z, Z = ncells (zeros 16) := ⟨_, rfl⟩
  obtain ⟨L, hL⟩ : ∃ L, L = 8 * (n + 1) := ⟨_, rfl⟩
  obtain ⟨w2, hw2⟩ : ∃ w2, w2 = (w.alloc (.cells (ncells (zeros 16)) 77)).alloc (.cells (ncells (zeros 16)) 77) := ⟨_, rfl⟩
  have b2 : Below w.heap.size w w2 := by rw [hw2]; exact ((Below.refl _ _).alloc (Nat.le_refl _) _).alloc (by simp) _
  have g4 : w2.heap[w.heap.size]? = some (.cells (ncells (zeros 16)) 77 (0, 0)) := by rw [hw2, Below.heap_alloc _ _ _ (by simp)]; exact heap_alloc_new w _
  have g5 : w2.heap[w.heap.size + 1]? = some (.cells (ncells (zeros 16)) 77 (0, 0)) := by rw [hw2]; exact heap_alloc2_new w _ _
  have hq := blk_lt h.1
  have h2 := h.below b2
  rw [← hL] at hl hcap ⊢
  -- the first copy
  have c1 := copyL (ty := 3) (dLen := 8) (dCap := 16) (sLen := L) (sCap := cap) (b := q) (o := 0) (S := l.take 8) (m := 8) (off := 0) g5 (by rw [List.length_take]; omega) (by show 8 = min L 8; omega) (fun j hj => by rw [Nat.zero_add, h2.cell (by omega)]; simp [at_, List.getD, List.getElem?_take_of_lt hj]) (by rw [zeros_len]; omega)
  obtain ⟨P1, hP1⟩ : ∃ P1, P1 = (zeros 16).take 0 ++ l.take 8 ++ (zeros 16).drop (0 + 8) := ⟨_, rfl⟩
  have p1l : P1.length = 16 := by rw [hP1]; simp [zeros_len]; omega
  rw [← hP1] at c1
  obtain ⟨w3, hw3⟩ : ∃ w3, w3 = w2.setRow (w.heap.size + 1) (ncells P1) := ⟨_, rfl⟩
  have b3 : Below w.heap.size w w3 := by rw [hw3]; exact b2.trans (below_row _ _ (by omega))
  have g53 : w3.heap[w.heap.size + 1]? = some (.cells (ncells P1) 77 (0, 0)) := by rw [hw3]; exact setRow_heap _ _ _ _ _ _ g5
  have g43 : w3.heap[w.heap.size]? = some (.cells (ncells (zeros 16)) 77 (0, 0)) := by rw [hw3, setRow_other _ _ _ _ (by omega)]; exact g4
  have h3 := h.below b3
  have c2 := copyL (ty := 3) (dLen := 8) (dCap := 8) (sLen := L - i * 8) (sCap := cap - i * 8) (b := q) (o := i * 8) (S := (l.drop (8 * i)).take 8) (m := 8) (off := 8) (w := w3.drew) g53 (by rw [List.length_take, List.length_drop]; omega) (by show 8 = min (L - i * 8) 8; omega) (fun j hj => by
    show w3.cell? _ = _
    rw [h3.cell (by omega)]
    simp [at_, List.getD, List.getElem?_take_of_lt hj, Nat.mul_comm]) (by omega)
  have hP2 : P1.take 8 ++ (l.drop (8 * i)).take 8 ++ P1.drop (8 + 8) = pr l i := by
    have e1 : P1.take 8 = l.take 8 := by rw [hP1]; simp [List.take_append, List.take_take]; omega
    have e2 : P1.drop (8 + 8) = [] := List.drop_eq_nil_of_le (by omega)
    rw [e1, e2, List.append_nil]; rfl
  rw [hP2] at c2
  have PL : Hid ((pr l i).length = 16) := pr_len (n := n) (by omega) hi
  obtain ⟨w4, hw4⟩ : ∃ w4, w4 = w3.drew.setRow (w.heap.size + 1) (ncells (pr l i)) := ⟨_, rfl⟩
  have b4 : Below w.heap.size w w4 := by rw [hw4]; exact (b3.drew).trans (below_row _ _ (by omega))
  have g54 : w4.heap[w.heap.size + 1]? = some (.cells (ncells (pr l i)) 77 (0, 0)) := by rw [hw4]; exact setRow_heap _ _ _ _ _ _ g53
  have g44 : w4.heap[w.heap.size]? = some (.cells (ncells (zeros 16)) 77 (0, 0)) := by rw [hw4, setRow_other _ _ _ _ (by omega)]; exact g43
  rw [← hw4] at c2
  rw [← hw3, hw2, ← hZ] at c1
  rw [← hZ] at zz g44
  have ZR : Hid (Z.size = (ncells (pr l i)).size) := by show _ = _; rw [hZ]; exact z47 PL.out
  have s1 := arr16_to8
  have s2 := arr16_from8
  have s3 := sl_from0 q L cap (i * 8) (by omega) hcap
  obtain ⟨a, ha⟩ : ∃ a, a = i * 8 := ⟨_, rfl⟩
  rw [← ha] at s3 c2
  have hmul : (i : Int) * 8 = (a : Int) := by omega
  have haw : IntKind.i64.wrap (a : Int) = (a : Int) := IntWalk.i64_in _ (by omega)
  have haL : (a : Int) ≤ (L : Int) := by omega
  have B4 := Lib.hid b4
  have G5 := Lib.hid g54
  have G4 := Lib.hid g44
  have OR := Lib.hid (none_ (pr l i))
  have hii : (i : Int) ≤ 100 := by omega
  clear h h2 h3 hl hcap hw2 hw3 hw4 hP1 hP2 p1l g4 g5 g53 g43 g54 g44 b2 b3 b4 hZ hL hq ha
  generalize pr l i = R at *
  go_enter Tryz.func46, Tryz.ntmps46
  go_wp2_with fail
  refine wp_region_still_tail 5 (by kernel_rfl) (by kernel_rfl) ?_
  simp only [List.take_succ_cons, List.take_zero, List.drop_succ_cons, List.drop_zero]
  iterate 5 still_step
  refine wpStill_nil ?_
  change wpList _ _ _ _ _ w3.drew
  go_wp2_with (first
    | (refine wpList_load_row rfl 77 (.tmp 5) rfl (w.heap.size + 1) rfl 77 (ncells R) (0, 0) _ G5.out Tryz.underlying77 rfl (i47 PL.out) ?_)
    | (refine wpList_store_row rfl 77 (.tmp 4) (.tmp 15) rfl w.heap.size (ncells R) rfl rfl 77 Z G4.out (i47 PL.out) ZR.out OR.out ?_))
  refine bodyPost_ret (v := .agg (ncells R)) (results_cell_row Tryz.results46 _ _ w.heap.size 77 _ (0, 0) _ rfl (setRow_heap _ _ _ _ _ _ G4.out) Tryz.underlying77 rfl (i47 PL.out)) rfl ⟨rfl, ?_⟩
  exact B4.out.trans (below_row _ _ (Nat.le_refl _))
/-- A list with another part. -/
def spl (l : List Nat) (off : Nat) (S : List Nat) : List Nat := l.take off ++ S ++ l.drop (off + S.length)
set_option maxRecDepth 100000 in
theorem spl_len {l S : List Nat} {off : Nat} (h : off + S.length ≤ l.length) : (spl l off S).length = l.length := by
  unfold spl; rw [List.length_append, List.length_append, List.length_take, List.length_drop]; omega
set_option maxRecDepth 100000 in
theorem spl_at {l S : List Nat} {off j : Nat} (h : off + S.length ≤ l.length) : at_ (spl l off S) j = if j < off then at_ l j else if j < off + S.length then at_ S (j - off) else at_ l j := by
  have e : ∀ (x : List Nat) (k : Nat), at_ x k = (x[k]?).getD 0 := fun x k => by simp [at_, List.getD_eq_getElem?_getD]
  rw [e, e, e]
  unfold spl
  by_cases h1 : j < off
  · rw [if_pos h1, List.append_assoc, List.getElem?_append_left (by rw [List.length_take]; omega), List.getElem?_take_of_lt h1]
  · rw [if_neg h1]
    by_cases h2 : j < off + S.length
    · rw [if_pos h2, List.getElem?_append_left (by rw [List.length_append, List.length_take]; omega), List.getElem?_append_right (by rw [List.length_take]; omega), List.length_take, Nat.min_eq_left (by omega)]
    · rw [if_neg h2, List.getElem?_append_right (by rw [List.length_append, List.length_take]; omega), List.getElem?_drop, List.length_append, List.length_take, Nat.min_eq_left (by omega)]
      congr 2; omega
set_option maxRecDepth 100000 in
/-- Bytes are copied into words. -/
theorem copyW {w : World} {q off m dLen dCap sLen sCap b o : Nat} {l S : List Nat} {cs : Array Value} {ty : TypeId} (h : WR w q l cs) (hs : S.length = m) (hm : m = Nat.min sLen dLen) (hsrc : ∀ j, j < m → w.cell? ⟨b, o + j, none⟩ = some (.int .u8 (at_ S j : Nat))) (hfit : off + m ≤ l.length) :
    ∃ cs', (Builtin.copy_ #[31, 31] ty #[.slice (some ⟨q, off, none⟩) dLen dCap, .slice (some ⟨b, o, none⟩) sLen sCap]).run Tryz.prog w = .ok (.int .i64 m) (w.setRow q cs') ∧ WR (w.setRow q cs') q (spl l off S) cs' := by
  have hr := run_copy_row Tryz.prog w 31 31 ty 5 q off dLen dCap ⟨b, o, none⟩ sLen sCap cs 5 (S.map fun n : Nat => Value.int .u8 (n : Int)) Tryz.underlying31 info5s h.1 (by rw [List.length_map, hs, hm])
    (fun j v hj => by
      rw [List.getElem?_map] at hj
      have hj' : j < m := by
        rcases Nat.lt_or_ge j S.length with h | h
        · omega
        · rw [List.getElem?_eq_none h] at hj; simp at hj
      rw [addr_add, hsrc j hj']
      rw [List.getElem?_eq_getElem (by omega)] at hj
      simp at hj
      rw [← hj]
      simp [at_, List.getD, hs, hj'])
    (by rw [List.length_map, hs]; have := h.2.1; omega) (fun v hv => by simp at hv; obtain ⟨_, _, rfl⟩ := hv; rfl)
  have e0 : goInt ((S.map fun n : Nat => Value.int .u8 (n : Int)).length) = .int .i64 m := by simp [goInt, hs]
  rw [e0] at hr
  refine ⟨_, hr, setRow_heap _ _ _ _ _ _ h.1, ?_, fun j hj => ?_⟩
  · rw [spl_len (by omega)]
    have := h.2.1
    simp only [List.size_toArray, List.length_append, List.length_take, List.length_drop, List.length_map, Array.length_toList]
    omega
  · rw [spl_len (by omega)] at hj
    have hc := h.2.1
    have hT : cs.toList[j]? = some (.int .u8 (at_ l j : Nat)) := by simpa using h.2.2 j hj
    have tl : cs.toList.length = cs.size := Array.length_toList
    rw [spl_at (by omega), List.getElem?_toArray]
    clear hr e0 hsrc
    generalize cs.toList = T at *
    by_cases h1 : j < off
    · rw [if_pos h1, List.append_assoc, List.getElem?_append_left (by rw [List.length_take, tl]; omega), List.getElem?_take_of_lt h1]
      exact hT
    · rw [if_neg h1]
      by_cases h2 : j < off + S.length
      · rw [if_pos h2, List.getElem?_append_left (by rw [List.length_append, List.length_take, List.length_map, tl]; omega), List.getElem?_append_right (by rw [List.length_take, tl]; omega), List.length_take, tl, Nat.min_eq_left (by omega), List.getElem?_map, List.getElem?_eq_getElem (by omega)]
        simp only [Option.map_some, Option.some.injEq, Value.int.injEq, true_and]
        have : j - off < S.length := by omega
        simp [at_, List.getD, this]
      · rw [if_neg h2, List.getElem?_append_right (by rw [List.length_append, List.length_take, List.length_map, tl]; omega), List.getElem?_drop, List.length_append, List.length_take, List.length_map, tl, Nat.min_eq_left (by omega)]
        rw [show off + S.length + (j - (off + S.length)) = j by omega]
        exact hT
/-- The words with a pair laid back. -/
def pt (l : List Nat) (i : Nat) (B : List Nat) : List Nat := spl (spl l 0 (B.take 8)) (i * 8) (B.drop 8)
/-- What lies elsewhere stays. -/
def Elsewhere (q : Nat) (w w' : World) : Prop := (∀ k, k < w.heap.size → k ≠ q → w'.heap[k]? = w.heap[k]?) ∧ (∀ (base : Nat) (a : World), base ≤ q → base ≤ w.heap.size → Below base a w → Below base a w') ∧ w.heap.size ≤ w'.heap.size
set_option maxRecDepth 100000 in
set_option maxHeartbeats 4000000 in
theorem putC (l B : List Nat) (n i q cap : Nat) (cs : Array Value) (w : World) (h : WR w q l cs) (hl : l.length = 8 * (n + 1)) (hB : B.length = 16) (hi : i ≤ n) (hn : n ≤ 100) (hcap : 8 * (n + 1) ≤ cap) :
    Calls Tryz.prog 43 #[.slice (some ⟨q, 0, none⟩) (8 * (n + 1)) cap, .int .i64 i, .agg (ncells B)] w fun e w' => e = .returned (.tuple #[]) ∧ (∃ cs', WR w' q (pt l i B) cs') ∧ Elsewhere q w w' := by
  obtain ⟨L, hL⟩ : ∃ L, L = 8 * (n + 1) := ⟨_, rfl⟩
  obtain ⟨w2, hw2⟩ : ∃ w2, w2 = w.alloc (.cells (ncells B) 77) := ⟨_, rfl⟩
  have b2 : Below w.heap.size w w2 := by rw [hw2]; exact (Below.refl _ _).alloc (Nat.le_refl _) _
  have g5 : w2.heap[w.heap.size]? = some (.cells (ncells B) 77 (0, 0)) := by rw [hw2]; exact heap_alloc_new w _
  have hq := blk_lt h.1
  have h2 := h.below b2
  rw [← hL] at hl hcap ⊢
  have cB : ∀ (W : World) (j : Nat), W.heap[w.heap.size]? = some (.cells (ncells B) 77 (0, 0)) → j < 16 → W.cell? ⟨w.heap.size, j, none⟩ = some (.int .u8 (at_ B j : Nat)) := fun W j hW hj => cell_at hW hB hj
  obtain ⟨cs1, c1, h3⟩ := copyW (ty := 3) (off := 0) (dLen := L) (dCap := cap) (sLen := 8) (sCap := 16) (b := w.heap.size) (o := 0) (S := B.take 8) (m := 8) h2 (by rw [List.length_take]; omega) (by show 8 = min 8 L; omega) (fun j hj => by rw [Nat.zero_add, cB w2 j g5 (by omega)]; simp [at_, List.getD, List.getElem?_take_of_lt hj]) (by omega)
  obtain ⟨w3, hw3⟩ : ∃ w3, w3 = w2.setRow q cs1 := ⟨_, rfl⟩
  rw [← hw3] at c1 h3
  have g53 : w3.heap[w.heap.size]? = some (.cells (ncells B) 77 (0, 0)) := by rw [hw3, setRow_other _ _ _ _ (by omega)]; exact g5
  have l1 : (spl l 0 (B.take 8)).length = L := by rw [spl_len (by rw [List.length_take]; omega)]; exact hl
  have h3d : WR w3.drew q (spl l 0 (B.take 8)) cs1 := h3
  obtain ⟨cs2, c2, h4⟩ := copyW (ty := 3) (off := i * 8) (dLen := L - i * 8) (dCap := cap - i * 8) (sLen := 8) (sCap := 8) (b := w.heap.size) (o := 8) (S := B.drop 8) (m := 8) h3d (by rw [List.length_drop]; omega) (by show 8 = min 8 (L - i * 8); omega) (fun j hj => by rw [cB w3.drew (8 + j) g53 (by omega)]; simp [at_, List.getD]) (by rw [l1]; omega)
  obtain ⟨w4, hw4⟩ : ∃ w4, w4 = w3.drew.setRow q cs2 := ⟨_, rfl⟩
  rw [← hw4] at c2 h4
  have HW : Hid (WR w4 q (pt l i B) cs2) := h4
  have EL : Hid (Elsewhere q w w4) := by
    refine ⟨fun k hk hne => ?_, fun base a hb hs ha => ?_, by rw [hw4, hw3]; simpa using b2.size⟩
    · rw [hw4, setRow_other _ _ _ _ hne]
      show w3.heap[k]? = _
      rw [hw3, setRow_other _ _ _ _ hne]
      exact b2.block k hk
    · have hd : Below base a w3 := by
        rw [hw3]
        exact (ha.trans (b2.mono hs)).trans (below_row _ _ hb)
      rw [hw4]
      exact hd.drew.trans (below_row _ _ hb)
  rw [hw2] at c1
  have s1 := arr16_to8
  have s2 := arr16_from8
  have s3 := sl_from0 q L cap (i * 8) (by omega) hcap
  obtain ⟨a, ha⟩ : ∃ a, a = i * 8 := ⟨_, rfl⟩
  rw [← ha] at s3 c2
  have hmul : (i : Int) * 8 = (a : Int) := by omega
  have haw : IntKind.i64.wrap (a : Int) = (a : Int) := IntWalk.i64_in _ (by omega)
  have haL : (a : Int) ≤ (L : Int) := by omega
  have hii : (i : Int) ≤ 100 := by omega
  clear h h2 h3 h3d h4 hl hcap hw2 hw3 hw4 g5 g53 b2 hL hq ha cB l1
  go_enter Tryz.func43, Tryz.ntmps43
  go_wp2_with fail
  refine wp_region_still_tail 5 (by kernel_rfl) (by kernel_rfl) ?_
  simp only [List.take_succ_cons, List.take_zero, List.drop_succ_cons, List.drop_zero]
  iterate 5 still_step
  refine wpStill_nil ?_
  change wpList _ _ _ _ _ w3.drew
  go_wp2_with fail
  go_end0
  exact ⟨rfl, ⟨_, HW.out⟩, EL.out⟩
/-- A pair with a step's number. -/
def ct (B : List Nat) (s : Nat) : List Nat := B.set 7 (Nat.xor (at_ B 7) s)
set_option maxRecDepth 100000 in
theorem ct_bts {B : List Nat} {s : Nat} (hB : Bts 16 B) (hs : s < 256) : Bts 16 (ct B s) := by
  refine ⟨by unfold ct; rw [List.length_set]; exact hB.1, fun x hx => ?_⟩
  rcases List.mem_or_eq_of_mem_set hx with h | h
  · exact hB.2 x h
  · rw [h]; exact xor_lt (hB.at_lt 7) hs
set_option maxRecDepth 100000 in
theorem ct_ct {B : List Nat} {s : Nat} (hB : Bts 16 B) : ct (ct B s) s = B := by
  have h7 : at_ (B.set 7 (Nat.xor (at_ B 7) s)) 7 = Nat.xor (at_ B 7) s := by
    simp [at_, List.getD, hB.1]
  unfold ct
  rw [h7, List.set_set, show Nat.xor (Nat.xor (at_ B 7) s) s = at_ B 7 from by
    show (at_ B 7 ^^^ s) ^^^ s = at_ B 7
    rw [Nat.xor_assoc, Nat.xor_self, Nat.xor_zero]]
  have : at_ B 7 = B[7]'(by rw [hB.1]; omega) := by simp [at_, List.getD, hB.1]
  rw [this, List.set_getElem_self]
set_option maxRecDepth 100000 in
theorem nsetW (B : List Nat) (i z : Nat) : (ncells B).setIfInBounds i (.int .u8 (z : Int)) = ncells (B.set i z) := by
  unfold ncells
  rw [List.setIfInBounds_toArray, List.map_set]
/-- What the loop has made of the pair. -/
def ctn (B : List Nat) (s i : Nat) : List Nat := if i ≤ 7 then B else ct B s
set_option maxRecDepth 100000 in
theorem ctn_step {B : List Nat} {s i : Nat} (hB : Bts 16 B) (hi : i < 8) : (ctn B s i).set i (Nat.xor (at_ (ctn B s i) i) (at_ (zeros 7 ++ [s]) i)) = ctn B s (i + 1) := by
  have e1 : ctn B s i = B := if_pos (by omega)
  rw [e1]
  by_cases h : i = 7
  · subst h
    have e2 : ctn B s (7 + 1) = ct B s := if_neg (by omega)
    rw [e2]; rfl
  · have e2 : ctn B s (i + 1) = B := if_pos (by omega)
    have e3 : at_ (zeros 7 ++ [s]) i = 0 := by
      rw [at_app_l (by rw [zeros_len]; omega)]
      have hz : ∀ k : Fin 7, at_ (zeros 7) k.val = 0 := by decide
      exact hz ⟨i, by omega⟩
    rw [e2, e3]
    have e4 : Nat.xor (at_ B i) 0 = at_ B i := Nat.xor_zero _
    have e5 : at_ B i = B[i]'(by rw [hB.1]; omega) := by simp [at_, List.getD, hB.1, show i < 16 by omega]
    rw [e4, e5, List.set_getElem_self]
set_option maxRecDepth 100000 in
theorem putS (s : Nat) (hs : s < 256) (w : World) : Calls Tryz.prog 38 #[.int .u64 s] w fun e w' => e = .returned (.slice (some ⟨w.heap.size, 0, none⟩) 8 8) ∧ w' = w.alloc (.cells (ncells (zeros 7 ++ [s])) 5) := by
  refine (put64 s (by omega) (by omega) w).mono ?_
  rintro e w' ⟨h1, h2⟩
  refine ⟨h1, ?_⟩
  rw [h2]
  congr 2
  have a : ∀ k : Int, 256 ≤ k → (s : Int) / k = 0 := fun k hk => Int.ediv_eq_zero_of_lt (by omega) (by omega)
  rw [a 72057594037927936 (by omega), a 281474976710656 (by omega), a 1099511627776 (by omega), a 4294967296 (by omega), a 16777216 (by omega), a 65536 (by omega), a 256 (by omega), Int.emod_eq_of_lt (a := (s : Int)) (b := 256) (by omega) (by omega)]
  rfl
set_option maxRecDepth 100000 in
set_option maxHeartbeats 4000000 in
theorem countedC (B : List Nat) (s : Nat) (hB : Bts 16 B) (hs : s < 256) (w : World) : Calls Tryz.prog 45 #[.agg (ncells B), .int .i64 s] w fun e w' => e = .returned (.agg (ncells (ct B s))) ∧ Below w.heap.size w w' := by
  have zz := zero47
  obtain ⟨Z, hZ⟩ : ∃ Z, Z = ncells (zeros 16) := ⟨_, rfl⟩
  rw [← hZ] at zz
  have ZR : Hid (Z.size = (ncells (ct B s)).size) := by show _ = _; rw [hZ]; exact z47 (ct_bts hB hs).1
  obtain ⟨w2, hw2⟩ : ∃ w2, w2 = (w.alloc (.cells (ncells B) 77)).alloc (.cells Z 77) := ⟨_, rfl⟩
  have b2 : Below w.heap.size w w2 := by rw [hw2]; exact ((Below.refl _ _).alloc (Nat.le_refl _) _).alloc (by simp) _
  have g2 : w2.heap[w.heap.size]? = some (.cells (ncells B) 77 (0, 0)) := by rw [hw2, Below.heap_alloc _ _ _ (by simp)]; exact heap_alloc_new w _
  have g4 : w2.heap[w.heap.size + 1]? = some (.cells Z 77 (0, 0)) := by rw [hw2]; exact heap_alloc2_new w _ _
  obtain ⟨q, hq⟩ : ∃ q, q = w2.heap.size := ⟨_, rfl⟩
  obtain ⟨w3, hw3⟩ : ∃ w3, w3 = w2.alloc (.cells (ncells (zeros 7 ++ [s])) 5) := ⟨_, rfl⟩
  have PS := Lib.hid (putS s hs w2)
  rw [← hw3, ← hq] at PS
  have b3 : Below w2.heap.size w2 w3 := by rw [hw3]; exact (Below.refl _ _).alloc (Nat.le_refl _) _
  have g9 : w3.heap[q]? = some (.cells (ncells (zeros 7 ++ [s])) 5 (0, 0)) := by rw [hw3, hq]; exact heap_alloc_new _ _
  have G2 : Hid (w3.heap[w.heap.size]? = some (.cells (ncells (ctn B s 0)) 77 (0, 0))) := (b3.block _ (blk_lt g2)).trans g2
  have G4 := Lib.hid ((b3.block _ (blk_lt g4)).trans g4)
  have G9 := Lib.hid g9
  have B3 := Lib.hid (b2.trans (b3.mono b2.size))
  have QN : Hid (w.heap.size < q ∧ w.heap.size + 1 < q) := by have := blk_lt g2; have := blk_lt g4; exact ⟨by omega, by omega⟩
  have HB := Lib.hid hB
  have CB := Lib.hid (ct_bts hB hs)
  have PL : Hid (Bts 8 (zeros 7 ++ [s])) := ⟨by simp [zeros_len], fun x hx => by
    simp [zeros] at hx
    rcases hx with h | h <;> omega⟩
  have CN : Hid (∀ i, i < 8 → (ctn B s i).set i (Nat.xor (at_ (ctn B s i) i) (at_ (zeros 7 ++ [s]) i)) = ctn B s (i + 1)) := fun i hi => ctn_step hB hi
  have C8 : Hid (ctn B s 8 = ct B s) := if_neg (by omega)
  have CL : Hid (∀ i, Bts 16 (ctn B s i)) := fun i => by
    show Bts 16 (ctn B s i)
    unfold ctn
    split
    · exact hB
    · exact ct_bts hB hs
  have HW2 := Lib.hid hw2
  have sw : IntKind.u64.wrap (s : Int) = (s : Int) := by simp [IntKind.wrap, IntKind.bits, IntKind.signed]; omega
  have sl : (s : Int) ≤ 255 := by omega
  generalize ctn B s = F at *
  generalize ct B s = C at *
  generalize zeros 7 ++ [s] = P at *
  clear hZ hw2 b2 g2 g4 hq hw3 b3 g9 hB hs
  go_enter Tryz.func45, Tryz.ntmps45
  go_wp2_with fail
  rw [← HW2.out]
  refine (PS.out).mono ?_
  rintro e w' ⟨rfl, rfl⟩
  clear HW2 PS
  go_wp2_with fail
  go_loopw [5, 6, 11] (fun _ _ vi wr => ∃ i : Nat, i ≤ 8 ∧ vi = .int .i64 i ∧ wr.heap[w.heap.size]? = some (.cells (ncells (F i)) 77 (0, 0)) ∧ wr.heap[w.heap.size + 1]? = some (.cells Z 77 (0, 0)) ∧ wr.heap[q]? = some (.cells (ncells P) 5 (0, 0)) ∧ Below w.heap.size w wr) (fun _ _ vi _ => 8 - (intOf vi).toNat)
  case atStart => exact ⟨0, by omega, rfl, G2.out, G4.out, G9.out, B3.out⟩
  case round =>
    clear G2 G4 G9 B3
    obtain ⟨i, hi, rfl, h2, h4, h9, hb⟩ := hrel
    by_cases hlt : i < 8
    · have hi8 : (i : Int) < 8 := by omega
      have c9 := cell_at h9 PL.out.1 hlt
      have c2 := cell_at h2 (CL.out i).1 (show i < 16 by omega)
      have f2 := frozen_of_row wr w.heap.size i _ 77 h2
      have hx := xor8 (at_ (F i) i) (at_ P i) ((CL.out i).at_lt i) (PL.out.at_lt i)
      obtain ⟨z, hz⟩ : ∃ z, z = Nat.xor (at_ (F i) i) (at_ P i) := ⟨_, rfl⟩
      have cn := CN.out i hlt
      rw [← hz] at cn hx
      have R2 : Hid ((wr.setCell ⟨w.heap.size, i, none⟩ (.int .u8 (z : Nat))).heap[w.heap.size]? = some (.cells (ncells (F (i + 1))) 77 (0, 0))) := by
        show _ = _
        rw [heap_setCell_same _ _ _ _ _ _ h2, nsetW, cn]
      have R4 : Hid ((wr.setCell ⟨w.heap.size, i, none⟩ (.int .u8 (z : Nat))).heap[w.heap.size + 1]? = some (.cells Z 77 (0, 0))) := (heap_setCell_other _ _ _ _ (by simp)).trans h4
      have R9 : Hid ((wr.setCell ⟨w.heap.size, i, none⟩ (.int .u8 (z : Nat))).heap[q]? = some (.cells (ncells P) 5 (0, 0))) := (heap_setCell_other _ _ _ _ (by have := QN.out; simp; omega)).trans h9
      have RB : Hid (Below w.heap.size w (wr.setCell ⟨w.heap.size, i, none⟩ (.int .u8 (z : Nat)))) := hb.setCell (Nat.le_refl _) _
      generalize at_ (F i) i = y1 at *
      generalize at_ P i = y2 at *
      clear h2 h4 h9 hb hz cn
      go_wp2_with fail
      go_roundw
      case rel => exact ⟨i + 1, by omega, by go_num, R2.out, R4.out, R9.out, RB.out⟩
      case measure => simp [intOf]; omega
    · have hi8 : i = 8 := by omega
      have hnl : ¬ (i : Int) < 8 := by omega
      rw [hi8, C8.out] at h2
      have H2 := Lib.hid h2
      have H4 := Lib.hid h4
      have HBW := Lib.hid hb
      clear h2 h4 h9 hb hi8 hi hlt
      go_wp2_with (first
        | (refine wpList_load_row rfl 77 (.tmp 2) rfl w.heap.size rfl 77 (ncells C) (0, 0) _ H2.out Tryz.underlying77 rfl (i47 CB.out.1) ?_)
        | (refine wpList_store_row rfl 77 (.tmp 4) (.tmp 23) rfl (w.heap.size + 1) (ncells C) rfl rfl 77 Z H4.out (i47 CB.out.1) ZR.out (none_ C) ?_))
      refine bodyPost_ret (v := .agg (ncells C)) (results_cell_row Tryz.results45 _ _ (w.heap.size + 1) 77 _ (0, 0) _ rfl (setRow_heap _ _ _ _ _ _ H4.out) Tryz.underlying77 rfl (i47 CB.out.1)) rfl ⟨rfl, ?_⟩
      exact HBW.out.trans (below_row _ _ (Nat.le_succ _))
/-- One step: the word i, the step's number s. -/
def stp (E : List Nat → List Nat) (l : List Nat) (i s : Nat) : List Nat := pt l i (ct (E (pr l i)) s)
/-- The words behind k steps. -/
def tn (E : List Nat → List Nat) (l : List Nat) (n : Nat) : Nat → List Nat
  | 0 => l
  | k + 1 => stp E (tn E l n k) (k % n + 1) (k + 1)
set_option maxRecDepth 100000 in
theorem spl_byt {l S : List Nat} {off : Nat} (hl : Byt l) (hS : Byt S) : Byt (spl l off S) := fun x hx => by
  unfold spl at hx
  rcases List.mem_append.1 hx with h | h
  · rcases List.mem_append.1 h with h | h
    · exact hl x (List.mem_of_mem_take h)
    · exact hS x h
  · exact hl x (List.mem_of_mem_drop h)
set_option maxRecDepth 100000 in
theorem pr_bts {l : List Nat} {n i : Nat} (hl : l.length = 8 * (n + 1)) (hb : Byt l) (hi : i ≤ n) : Bts 16 (pr l i) := ⟨pr_len hl hi, fun x hx => by
  unfold pr at hx
  rcases List.mem_append.1 hx with h | h
  · exact hb x (List.mem_of_mem_take h)
  · exact hb x (List.mem_of_mem_drop (List.mem_of_mem_take h))⟩
set_option maxRecDepth 100000 in
theorem pt_ok {l B : List Nat} {n i : Nat} (hl : l.length = 8 * (n + 1)) (hb : Byt l) (hi : i ≤ n) (hB : Bts 16 B) : (pt l i B).length = 8 * (n + 1) ∧ Byt (pt l i B) := by
  have l1 : (B.take 8).length = 8 := by rw [List.length_take, hB.1]; rfl
  have l2 : (B.drop 8).length = 8 := by rw [List.length_drop, hB.1]
  have e1 : (spl l 0 (B.take 8)).length = 8 * (n + 1) := by rw [spl_len (by omega), hl]
  refine ⟨?_, spl_byt (spl_byt hb (fun x hx => hB.2 x (List.mem_of_mem_take hx))) (fun x hx => hB.2 x (List.mem_of_mem_drop hx))⟩
  unfold pt
  rw [spl_len (by omega), e1]
set_option maxRecDepth 100000 in
theorem tn_ok {E : List Nat → List Nat} (hE : ∀ x, Bts 16 x → Bts 16 (E x)) {l : List Nat} {n : Nat} (hn : 0 < n) (hl : l.length = 8 * (n + 1)) (hb : Byt l) : ∀ k, k ≤ 200 → (tn E l n k).length = 8 * (n + 1) ∧ Byt (tn E l n k)
  | 0, _ => ⟨hl, hb⟩
  | k + 1, h => by
    obtain ⟨h1, h2⟩ := tn_ok hE hn hl hb k (by omega)
    have hi : k % n + 1 ≤ n := Nat.mod_lt _ hn
    exact pt_ok h1 h2 hi (ct_bts (hE _ (pr_bts h1 h2 hi)) (by omega))
set_option maxRecDepth 100000 in
theorem mul_next {m n : Nat} (h : n ∣ m) (h6 : m ≤ 6 * n) (hne : m ≠ 6 * n) : m + n ≤ 6 * n := by
  obtain ⟨t, rfl⟩ := h
  rcases Nat.lt_or_ge t 6 with h | h
  · have := Nat.mul_le_mul_left n (show t + 1 ≤ 6 by omega)
    rw [Nat.mul_add, Nat.mul_one] at this
    omega
  · have := Nat.mul_le_mul_left n h
    omega
set_option maxRecDepth 100000 in
theorem mul_mod {m n j : Nat} (h : n ∣ m) (hj : j < n) : (m + j) % n = j := by
  obtain ⟨t, rfl⟩ := h
  rw [Nat.mul_add_mod, Nat.mod_eq_of_lt hj]
set_option maxRecDepth 100000 in
theorem Elsewhere.of_below {q : Nat} {w w' : World} (h : Below w.heap.size w w') : Elsewhere q w w' := ⟨fun k hk _ => h.block k hk, fun _ _ _ hs ha => ha.trans (h.mono hs), h.size⟩
set_option maxRecDepth 100000 in
theorem Elsewhere.trans {q : Nat} {w w' w'' : World} (h : Elsewhere q w w') (hs : w.heap.size ≤ w'.heap.size) (h2 : Elsewhere q w' w'') : Elsewhere q w w'' :=
  ⟨fun k hk hne => (h2.1 k (Nat.lt_of_lt_of_le hk hs) hne).trans (h.1 k hk hne), fun base a hb hz ha => h2.2.1 base a hb (Nat.le_trans hz hs) (h.2.1 base a hb hz ha), Nat.le_trans hs h2.2.2⟩
set_option maxRecDepth 100000 in
set_option maxHeartbeats 8000000 in
theorem turnW (key l : List Nat) (hk : Bts 32 key) (gc n q cap : Nat) (cs : Array Value) (w : World) (hc : CIat w gc (flat key)) (h : WR w q l cs) (hb : Byt l) (hl : l.length = 8 * (n + 1)) (h1 : 0 < n) (hn : n ≤ 16) (hcap : 8 * (n + 1) ≤ cap) :
    Calls Tryz.prog 39 #[.pointer (some ⟨gc, 0, none⟩), .slice (some ⟨q, 0, none⟩) (8 * (n + 1)) cap] w fun e w' => e = .returned (.tuple #[]) ∧ (∃ cs', WR w' q (tn (enc key) l n (6 * n)) cs') ∧ Elsewhere q w w' := by
  have hgq : gc ≠ q := fun e => by have := h.1; rw [← e, hc] at this; cases this
  have EN : Hid (∀ (W : World) (x : List Nat), Bts 16 x → CIat W gc (flat key) → Calls Tryz.prog 59 #[.pointer (some ⟨gc, 0, none⟩), .agg (ncells x)] W fun e w' => e = .returned (.agg (ncells (enc key x))) ∧ Below W.heap.size W w') := fun W x hx hW => encC hk hx gc W hW
  have EB : Hid (∀ x, Bts 16 x → Bts 16 (enc key x)) := fun x hx => enc_bts hk hx
  have TO : Hid (∀ k, k ≤ 200 → (tn (enc key) l n k).length = 8 * (n + 1) ∧ Byt (tn (enc key) l n k)) := tn_ok (fun x hx => enc_bts hk hx) h1 hl hb
  have TS : Hid (∀ k, tn (enc key) l n (k + 1) = stp (enc key) (tn (enc key) l n k) (k % n + 1) (k + 1)) := fun k => rfl
  have T0 : Hid (tn (enc key) l n 0 = l) := rfl
  obtain ⟨L, hL⟩ : ∃ L, L = 8 * (n + 1) := ⟨_, rfl⟩
  obtain ⟨N6, hN6⟩ : ∃ N6, N6 = 6 * n := ⟨_, rfl⟩
  obtain ⟨n1, hn1⟩ : ∃ n1, n1 = n + 1 := ⟨_, rfl⟩
  have hq1 : (L : Int).tdiv 8 = (n1 : Int) := by rw [Int.tdiv_eq_ediv_of_nonneg (by omega)]; omega
  have hq2 : (n1 : Int) - 1 = (n : Int) := by omega
  have hm6 : 6 * (n : Int) = (N6 : Int) := by omega
  have hn16 : (n : Int) ≤ 16 := by omega
  have hn17 : (n1 : Int) ≤ 17 := by omega
  have h96 : (N6 : Int) ≤ 96 := by omega
  have HL := Lib.hid hL
  have HN6 := Lib.hid hN6
  have H1 := Lib.hid h1
  have HCAP := Lib.hid hcap
  have HQ := Lib.hid hgq
  have S0 : Hid (WR w q (tn (enc key) l n 0) cs ∧ CIat w gc (flat key)) := ⟨h, hc⟩
  rw [← hL, ← hN6]
  generalize enc key = E at *
  generalize tn E l n = T at *
  generalize flat key = F at *
  clear hk hc h hb hl h1 hn hcap hgq hL hN6 hn1
  go_enter Tryz.func39, Tryz.ntmps39
  go_wp2_with fail
  go_step3
  go_wp2_with fail
  go_step3
  go_wp2_with fail
  go_loopw [5, 6] (fun v5 _ wr => ∃ (m : Nat) (cs' : Array Value), n ∣ m ∧ m ≤ N6 ∧ v5 = .int .i64 m ∧ WR wr q (T m) cs' ∧ CIat wr gc F ∧ Elsewhere q w wr ∧ w.heap.size ≤ wr.heap.size) (fun v5 _ _ => N6 + 1 - (intOf v5).toNat)
  case atStart => exact ⟨0, cs, Nat.dvd_zero _, by omega, rfl, S0.out.1, S0.out.2, Elsewhere.of_below (Below.refl _ _), Nat.le_refl _⟩
  case round =>
    clear S0
    obtain ⟨m, cs1, hdv, hm, rfl, hw, hci, hel, hsz⟩ := hrel
    have DV := Lib.hid hdv
    have HM := Lib.hid hm
    have S1 := Lib.hid (And.intro hw (And.intro hci (And.intro hel hsz)))
    clear hdv hm hw hci hel hsz
    go_wp2_with fail
    go_loopw [5, 6] (fun v5 v6 wr => ∃ (i k : Nat) (cs' : Array Value), 1 ≤ i ∧ i ≤ n1 ∧ (m = N6 → i = 1) ∧ k + 1 = m + i ∧ v5 = .int .i64 k ∧ v6 = .int .i64 i ∧ WR wr q (T k) cs' ∧ CIat wr gc F ∧ Elsewhere q w wr ∧ w.heap.size ≤ wr.heap.size) (fun _ v6 _ => n1 + 1 - (intOf v6).toNat)
    case atStart => exact ⟨1, m, cs1, by omega, by omega, fun _ => rfl, rfl, rfl, rfl, S1.out.1, S1.out.2.1, S1.out.2.2.1, S1.out.2.2.2⟩
    case round =>
      clear S1
      obtain ⟨i, k, cs2, hi1, hi2, hi3, hk, rfl, rfl, hw, hci, hel, hsz⟩ := hrel
      by_cases hin : i ≤ n
      · have hii : (i : Int) ≤ (n : Int) := by omega
        have hi0 : (1 : Int) ≤ (i : Int) := by omega
        by_cases hk6 : k = N6
        · have q6 : ((k : Int) == (N6 : Int)) = true := by simp [hk6]
          have FIN : Hid ((∃ cs', WR wr q (T N6) cs') ∧ Elsewhere q w wr) := ⟨⟨cs2, by rw [← hk6]; exact hw⟩, hel⟩
          clear hi3 hk hw hci hel hsz hk6
          go_wp2_with fail
          rw [Exit.noGoto_normal]
          go_end0
          exact ⟨rfl, FIN.out⟩
        · have q6 : ((k : Int) == (N6 : Int)) = false := by simp; omega
          have hlt : k + 1 ≤ 96 := by
            have h2 : m ≠ N6 := fun e => by have := hi3 e; omega
            have h3 := mul_next DV.out (by rw [← HN6.out]; exact HM.out) (by rw [← HN6.out]; exact h2)
            have := HN6.out
            omega
          have hkmod : k % n + 1 = i := by
            have : (m + (i - 1)) % n = i - 1 := mul_mod DV.out (by omega)
            have e : k = m + (i - 1) := by omega
            rw [e, this]; omega
          have hkk : (k : Int) ≤ 95 := by omega
          have TK := Lib.hid (TO.out k (by omega))
          have TN1 : Hid (T (k + 1) = pt (T k) i (ct (E (pr (T k) i)) (k + 1))) := by show _ = _; rw [TS.out k, hkmod]; rfl
          have PB : Hid (Bts 16 (pr (T k) i)) := pr_bts TK.out.1 TK.out.2 hin
          have EBB := Lib.hid (EB.out _ PB.out)
          have CBB : Hid (Bts 16 (ct (E (pr (T k) i)) (k + 1))) := ct_bts EBB.out (by omega)
          have PC : Hid (Calls Tryz.prog 46 #[.slice (some ⟨q, 0, none⟩) L cap, .int .i64 i] wr fun e w' => e = .returned (.agg (ncells (pr (T k) i))) ∧ Below wr.heap.size wr w') := by
            show Calls _ _ _ _ _
            rw [HL.out]
            exact pairC (T k) n i q cap cs2 wr hw TK.out.1 hin (by omega) HCAP.out
          have CC : Hid (∀ W : World, Calls Tryz.prog 45 #[.agg (ncells (E (pr (T k) i))), .int .i64 ((k : Int) + 1)] W fun e w' => e = .returned (.agg (ncells (ct (E (pr (T k) i)) (k + 1)))) ∧ Below W.heap.size W w') := fun W => by
            have := countedC (E (pr (T k) i)) (k + 1) EBB.out (by omega) W
            exact this
          have HW := Lib.hid hw
          have HCI := Lib.hid hci
          have HEL := Lib.hid hel
          have HSZ := Lib.hid hsz
          have HK := Lib.hid hk
          have HI3 := Lib.hid hi3
          clear hw hci hel hsz hk hi3 hk6 hkmod
          go_wp2_with fail
          refine (PC.out).mono ?_
          rintro e w2 ⟨rfl, hb2⟩
          have W2 := Lib.hid (HW.out.below hb2)
          have C2 := Lib.hid (HCI.out.below hb2)
          have E2 := Lib.hid (HEL.out.trans HSZ.out (Elsewhere.of_below hb2))
          have Z2 := Lib.hid (Nat.le_trans HSZ.out hb2.size)
          clear hb2 HW HCI HEL HSZ PC
          go_wp2_with fail
          refine (EN.out _ _ PB.out C2.out).mono ?_
          rintro e w3 ⟨rfl, hb3⟩
          have W3 := Lib.hid (W2.out.below hb3)
          have C3 := Lib.hid (C2.out.below hb3)
          have E3 := Lib.hid (E2.out.trans Z2.out (Elsewhere.of_below hb3))
          have Z3 := Lib.hid (Nat.le_trans Z2.out hb3.size)
          clear hb3 W2 C2 E2 Z2
          go_wp2_with fail
          refine (CC.out _).mono ?_
          rintro e w4 ⟨rfl, hb4⟩
          have W4 := Lib.hid (W3.out.below hb4)
          have C4 := Lib.hid (C3.out.below hb4)
          have E4 := Lib.hid (E3.out.trans Z3.out (Elsewhere.of_below hb4))
          have Z4 := Lib.hid (Nat.le_trans Z3.out hb4.size)
          clear hb4 W3 C3 E3 Z3
          have PP : Hid (Calls Tryz.prog 43 #[.slice (some ⟨q, 0, none⟩) L cap, .int .i64 i, .agg (ncells (ct (E (pr (T k) i)) (k + 1)))] w4 fun e w' => e = .returned (.tuple #[]) ∧ (∃ cs', WR w' q (T (k + 1)) cs') ∧ Elsewhere q w4 w') := by
            show Calls _ _ _ _ _
            rw [HL.out, TN1.out]
            exact putC (T k) _ n i q cap cs2 w4 W4.out TK.out.1 CBB.out.1 hin (by omega) HCAP.out
          go_wp2_with fail
          refine (PP.out).mono ?_
          rintro e w5 ⟨rfl, ⟨cs5, hw5⟩, he5⟩
          have W5 := Lib.hid hw5
          have C5 : Hid (CIat w5 gc F) := (he5.1 gc (blk_lt C4.out) HQ.out).trans C4.out
          have E5 := Lib.hid (E4.out.trans Z4.out he5)
          have Z5 := Lib.hid (Nat.le_trans Z4.out he5.2.2)
          clear hw5 he5 W4 C4 E4 Z4 PP CC
          go_wp2_with fail
          go_roundw
          case rel =>
            have h3 : m ≠ N6 := fun e => by have := HI3.out e; have := HK.out; simp at q6; omega
            exact ⟨i + 1, k + 1, cs5, by omega, by omega, fun e => absurd e h3, by have := HK.out; omega, by go_num, by go_num, W5.out, C5.out, E5.out, Z5.out⟩
          case measure => simp [intOf]; omega
      · have hni : ¬ (i : Int) ≤ (n : Int) := by omega
        have H5 := Lib.hid (And.intro hw (And.intro hci (And.intro hel hsz)))
        have HK : Hid (k = m + n) := by show _ = _; omega
        have HMM : Hid (m ≠ N6) := fun e => by have := hi3 e; have := H1.out; omega
        clear hw hci hel hsz hi3 hk
        go_wp2_with fail
        go_roundw
        case rel =>
          refine ⟨k, cs2, ?_, ?_, rfl, H5.out.1, H5.out.2.1, H5.out.2.2.1, H5.out.2.2.2⟩
          · rw [HK.out]; exact Nat.dvd_add DV.out (Nat.dvd_refl _)
          · have h3 := mul_next DV.out (by rw [← HN6.out]; exact HM.out) (by rw [← HN6.out]; exact HMM.out)
            have := HN6.out
            have := HK.out
            omega
        case measure => have := HK.out; have := H1.out; have := HM.out; simp [intOf]; omega
/-- One step undone: the word i, the step's number s. -/
def stb (D : List Nat → List Nat) (l : List Nat) (i s : Nat) : List Nat := pt l i (D (ct (pr l i) s))
/-- The words when k steps are undone, from step k on. -/
def bt (D : List Nat → List Nat) (n : Nat) : Nat → List Nat → List Nat
  | 0, l => l
  | k + 1, l => bt D n k (stb D l (k % n + 1) (k + 1))
set_option maxRecDepth 100000 in
theorem bt_ok {D : List Nat → List Nat} (hD : ∀ x, Bts 16 x → Bts 16 (D x)) {n : Nat} (hn : 0 < n) : ∀ k, k ≤ 200 → ∀ l, l.length = 8 * (n + 1) → Byt l → (bt D n k l).length = 8 * (n + 1) ∧ Byt (bt D n k l)
  | 0, _, l, h1, h2 => ⟨h1, h2⟩
  | k + 1, h, l, h1, h2 => by
    have hi : k % n + 1 ≤ n := Nat.mod_lt _ hn
    have p := pt_ok h1 h2 hi (hD _ (ct_bts (pr_bts h1 h2 hi) (show k + 1 < 256 by omega)))
    exact bt_ok hD hn k (by omega) _ p.1 p.2
set_option maxRecDepth 100000 in
set_option maxHeartbeats 8000000 in
theorem turnBackW (key l : List Nat) (hk : Bts 32 key) (gc n q cap : Nat) (cs : Array Value) (w : World) (hc : CIat w gc (flat key)) (h : WR w q l cs) (hb : Byt l) (hl : l.length = 8 * (n + 1)) (h1 : 0 < n) (hn : n ≤ 16) (hcap : 8 * (n + 1) ≤ cap) :
    Calls Tryz.prog 28 #[.pointer (some ⟨gc, 0, none⟩), .slice (some ⟨q, 0, none⟩) (8 * (n + 1)) cap] w fun e w' => e = .returned (.tuple #[]) ∧ (∃ cs', WR w' q (bt (dec key) n (6 * n) l) cs') ∧ Elsewhere q w w' := by
  have hgq : gc ≠ q := fun e => by have := h.1; rw [← e, hc] at this; cases this
  have EN : Hid (∀ (W : World) (x : List Nat), Bts 16 x → CIat W gc (flat key) → Calls Tryz.prog 44 #[.pointer (some ⟨gc, 0, none⟩), .agg (ncells x)] W fun e w' => e = .returned (.agg (ncells (dec key x))) ∧ Below W.heap.size W w') := fun W x hx hW => decC hk hx gc W hW
  have EB : Hid (∀ x, Bts 16 x → Bts 16 (dec key x)) := fun x hx => dec_bts hk hx
  have TS : Hid (∀ k X, bt (dec key) n (k + 1) X = bt (dec key) n k (stb (dec key) X (k % n + 1) (k + 1))) := fun k X => rfl
  have T0 : Hid (∀ X, bt (dec key) n 0 X = X) := fun X => rfl
  obtain ⟨R, hR⟩ : ∃ R, R = bt (dec key) n (6 * n) l := ⟨_, rfl⟩
  rw [← hR]
  obtain ⟨L, hL⟩ : ∃ L, L = 8 * (n + 1) := ⟨_, rfl⟩
  obtain ⟨N6, hN6⟩ : ∃ N6, N6 = 6 * n := ⟨_, rfl⟩
  obtain ⟨n1, hn1⟩ : ∃ n1, n1 = n + 1 := ⟨_, rfl⟩
  have hq1 : (L : Int).tdiv 8 = (n1 : Int) := by rw [Int.tdiv_eq_ediv_of_nonneg (by omega)]; omega
  have hq2 : (n1 : Int) - 1 = (n : Int) := by omega
  have hm6 : 6 * (n : Int) = (N6 : Int) := by omega
  have hn16 : (n : Int) ≤ 16 := by omega
  have hn17 : (n1 : Int) ≤ 17 := by omega
  have h96 : (N6 : Int) ≤ 96 := by omega
  have HL := Lib.hid hL
  have HN6 := Lib.hid hN6
  have H1 := Lib.hid h1
  have HCAP := Lib.hid hcap
  have HQ := Lib.hid hgq
  have DV6 : Hid (n ∣ N6) := ⟨6, by rw [hN6, Nat.mul_comm]⟩
  have S0 : Hid (WR w q l cs ∧ CIat w gc (flat key) ∧ l.length = 8 * (n + 1) ∧ Byt l ∧ bt (dec key) n N6 l = R) := ⟨h, hc, hl, hb, by rw [hN6, hR]⟩
  rw [← hL]
  generalize dec key = D at *
  generalize bt D n = T at *
  generalize flat key = F at *
  clear hk hc h hb hl h1 hn hcap hgq hL hN6 hn1 hR
  go_enter Tryz.func28, Tryz.ntmps28
  go_wp2_with fail
  go_step3
  go_wp2_with fail
  go_step3
  go_wp2_with fail
  go_loopw [5, 6] (fun v5 _ wr => ∃ (m : Nat) (X : List Nat) (cs' : Array Value), n ∣ m ∧ m ≤ N6 ∧ v5 = .int .i64 m ∧ WR wr q X cs' ∧ CIat wr gc F ∧ Elsewhere q w wr ∧ w.heap.size ≤ wr.heap.size ∧ X.length = 8 * (n + 1) ∧ Byt X ∧ T m X = R) (fun v5 _ _ => (intOf v5).toNat + 1)
  case atStart => exact ⟨N6, l, cs, DV6.out, Nat.le_refl _, rfl, S0.out.1, S0.out.2.1, Elsewhere.of_below (Below.refl _ _), Nat.le_refl _, S0.out.2.2.1, S0.out.2.2.2.1, S0.out.2.2.2.2⟩
  case round =>
    clear S0
    obtain ⟨m, X, cs1, hdv, hm, rfl, hw, hci, hel, hsz, hxl, hxb, hxt⟩ := hrel
    have DV := Lib.hid hdv
    have HM := Lib.hid hm
    have S1 := Lib.hid (And.intro hw (And.intro hci (And.intro hel hsz)))
    have X1 := Lib.hid (And.intro hxl (And.intro hxb hxt))
    clear hdv hm hw hci hel hsz hxl hxb hxt
    go_wp2_with fail
    go_loopw [5, 6] (fun v5 v6 wr => ∃ (i k : Nat) (X : List Nat) (cs' : Array Value), i ≤ n ∧ (m = 0 → i = n) ∧ k + n = m + i ∧ v5 = .int .i64 k ∧ v6 = .int .i64 i ∧ WR wr q X cs' ∧ CIat wr gc F ∧ Elsewhere q w wr ∧ w.heap.size ≤ wr.heap.size ∧ X.length = 8 * (n + 1) ∧ Byt X ∧ T k X = R) (fun _ v6 _ => (intOf v6).toNat)
    case atStart => exact ⟨n, m, X, cs1, Nat.le_refl _, fun _ => rfl, rfl, rfl, rfl, S1.out.1, S1.out.2.1, S1.out.2.2.1, S1.out.2.2.2, X1.out.1, X1.out.2.1, X1.out.2.2⟩
    case round =>
      clear S1 X1 X
      obtain ⟨i, k, X, cs2, hi2, hi3, hk, rfl, rfl, hw, hci, hel, hsz, hxl, hxb, hxt⟩ := hrel
      by_cases hin : 0 < i
      · have hii : (i : Int) ≤ 16 := by omega
        have hi0 : (0 : Int) < (i : Int) := by omega
        by_cases hk6 : k = 0
        · have q6 : ((k : Int) == 0) = true := by simp [hk6]
          have FIN : Hid ((∃ cs', WR wr q R cs') ∧ Elsewhere q w wr) := ⟨⟨cs2, by rw [← hxt, hk6, T0.out]; exact hw⟩, hel⟩
          clear hi3 hk hw hci hel hsz hk6 hxl hxb hxt
          go_wp2_with fail
          rw [Exit.noGoto_normal]
          go_end0
          exact ⟨rfl, FIN.out⟩
        · have q6 : ((k : Int) == 0) = false := by simp; omega
          have hm0 : m ≠ 0 := fun e => by have := hi3 e; omega
          have hnm := mul_prev DV.out hm0
          obtain ⟨p, hp⟩ : ∃ p, k = p + 1 := ⟨k - 1, by omega⟩
          have hkp : (k : Int) - 1 = (p : Int) := by omega
          have hkmod : p % n + 1 = i := by
            have hdv2 : n ∣ (m - n) := Nat.dvd_sub DV.out (Nat.dvd_refl n)
            have : ((m - n) + (i - 1)) % n = i - 1 := mul_mod hdv2 (by omega)
            have e : p = (m - n) + (i - 1) := by omega
            rw [e, this]; omega
          have hk96 : k ≤ 96 := by have := HM.out; omega
          have hkk : (k : Int) ≤ 96 := by omega
          have XL := Lib.hid hxl
          have XB := Lib.hid hxb
          have XT : Hid (T p (pt X i (D (ct (pr X i) k))) = R) := by
            have := hxt
            rw [hp, TS.out p X, hkmod, ← hp] at this
            exact this
          have PB : Hid (Bts 16 (pr X i)) := pr_bts hxl hxb hi2
          have CBB : Hid (Bts 16 (ct (pr X i) k)) := ct_bts PB.out (by omega)
          have EBB := Lib.hid (EB.out _ CBB.out)
          have POK := Lib.hid (pt_ok hxl hxb hi2 EBB.out)
          have PC : Hid (Calls Tryz.prog 46 #[.slice (some ⟨q, 0, none⟩) L cap, .int .i64 i] wr fun e w' => e = .returned (.agg (ncells (pr X i))) ∧ Below wr.heap.size wr w') := by
            show Calls _ _ _ _ _
            rw [HL.out]
            exact pairC X n i q cap cs2 wr hw hxl hi2 (by omega) HCAP.out
          have CC : Hid (∀ W : World, Calls Tryz.prog 45 #[.agg (ncells (pr X i)), .int .i64 k] W fun e w' => e = .returned (.agg (ncells (ct (pr X i) k))) ∧ Below W.heap.size W w') := fun W => countedC (pr X i) k PB.out (by omega) W
          have HW := Lib.hid hw
          have HCI := Lib.hid hci
          have HEL := Lib.hid hel
          have HSZ := Lib.hid hsz
          have HK := Lib.hid hk
          have HM0 := Lib.hid hm0
          have HP := Lib.hid hp
          clear hw hci hel hsz hk hi3 hk6 hkmod hxl hxb hxt hm0 hp hnm hk96
          go_wp2_with fail
          refine (PC.out).mono ?_
          rintro e w2 ⟨rfl, hb2⟩
          have W2 := Lib.hid (HW.out.below hb2)
          have C2 := Lib.hid (HCI.out.below hb2)
          have E2 := Lib.hid (HEL.out.trans HSZ.out (Elsewhere.of_below hb2))
          have Z2 := Lib.hid (Nat.le_trans HSZ.out hb2.size)
          clear hb2 HW HCI HEL HSZ PC
          go_wp2_with fail
          refine (CC.out _).mono ?_
          rintro e w3 ⟨rfl, hb3⟩
          have W3 := Lib.hid (W2.out.below hb3)
          have C3 := Lib.hid (C2.out.below hb3)
          have E3 := Lib.hid (E2.out.trans Z2.out (Elsewhere.of_below hb3))
          have Z3 := Lib.hid (Nat.le_trans Z2.out hb3.size)
          clear hb3 W2 C2 E2 Z2
          go_wp2_with fail
          refine (EN.out _ _ CBB.out C3.out).mono ?_
          rintro e w4 ⟨rfl, hb4⟩
          have W4 := Lib.hid (W3.out.below hb4)
          have C4 := Lib.hid (C3.out.below hb4)
          have E4 := Lib.hid (E3.out.trans Z3.out (Elsewhere.of_below hb4))
          have Z4 := Lib.hid (Nat.le_trans Z3.out hb4.size)
          clear hb4 W3 C3 E3 Z3
          have PP : Hid (Calls Tryz.prog 43 #[.slice (some ⟨q, 0, none⟩) L cap, .int .i64 i, .agg (ncells (D (ct (pr X i) k)))] w4 fun e w' => e = .returned (.tuple #[]) ∧ (∃ cs', WR w' q (pt X i (D (ct (pr X i) k))) cs') ∧ Elsewhere q w4 w') := by
            show Calls _ _ _ _ _
            rw [HL.out]
            exact putC X _ n i q cap cs2 w4 W4.out XL.out EBB.out.1 hi2 (by omega) HCAP.out
          go_wp2_with fail
          refine (PP.out).mono ?_
          rintro e w5 ⟨rfl, ⟨cs5, hw5⟩, he5⟩
          have W5 := Lib.hid hw5
          have C5 : Hid (CIat w5 gc F) := (he5.1 gc (blk_lt C4.out) HQ.out).trans C4.out
          have E5 := Lib.hid (E4.out.trans Z4.out he5)
          have Z5 := Lib.hid (Nat.le_trans Z4.out he5.2.2)
          clear hw5 he5 W4 C4 E4 Z4 PP CC
          go_wp2_with fail
          go_roundw
          case rel =>
            obtain ⟨j, hj⟩ : ∃ j, i = j + 1 := ⟨i - 1, by omega⟩
            refine ⟨j, p, _, cs5, by omega, fun e => absurd e HM0.out, by have := HK.out; have := HP.out; omega, ?_, ?_, W5.out, C5.out, E5.out, Z5.out, POK.out.1, POK.out.2, XT.out⟩
            · go_num
            · go_num
          case measure => simp [intOf]; omega
      · have hni : ¬ (0 : Int) < (i : Int) := by omega
        have H5 := Lib.hid (And.intro hw (And.intro hci (And.intro hel (And.intro hsz (And.intro hxl (And.intro hxb hxt))))))
        have HK : Hid (k + n = m) := by show _ = _; omega
        clear hw hci hel hsz hi3 hk hxl hxb hxt
        go_wp2_with fail
        go_roundw
        case rel =>
          refine ⟨k, X, cs2, ?_, ?_, rfl, H5.out.1, H5.out.2.1, H5.out.2.2.1, H5.out.2.2.2.1, H5.out.2.2.2.2.1, H5.out.2.2.2.2.2.1, H5.out.2.2.2.2.2.2⟩
          · have e : k = m - n := by have := HK.out; omega
            rw [e]; exact Nat.dvd_sub DV.out (Nat.dvd_refl _)
          · have := HK.out; have := HM.out; omega
        case measure => have := HK.out; have := H1.out; simp [intOf]; omega
set_option maxRecDepth 100000 in
theorem at_take {l : List Nat} {k j : Nat} (h : j < k) : at_ (l.take k) j = at_ l j := by simp [at_, List.getD, List.getElem?_take_of_lt h]
set_option maxRecDepth 100000 in
theorem at_drop (l : List Nat) (k j : Nat) : at_ (l.drop k) j = at_ l (k + j) := by simp [at_, List.getD]
set_option maxRecDepth 100000 in
theorem pt_at {l B : List Nat} {n i j : Nat} (hl : l.length = 8 * (n + 1)) (hB : B.length = 16) (h1 : 1 ≤ i) (hi : i ≤ n) : at_ (pt l i B) j = if j < 8 then at_ B j else if 8 * i ≤ j ∧ j < 8 * i + 8 then at_ B (8 + (j - 8 * i)) else at_ l j := by
  have l1 : (B.take 8).length = 8 := by rw [List.length_take, hB]; rfl
  have l2 : (B.drop 8).length = 8 := by rw [List.length_drop, hB]
  have e1 : (spl l 0 (B.take 8)).length = 8 * (n + 1) := by rw [spl_len (by omega), hl]
  unfold pt
  rw [spl_at (by omega), spl_at (by omega), l1, l2, at_drop]
  by_cases c1 : j < 8
  · have a0 : j < i * 8 := by omega
    have a1 : ¬ j < 0 := by omega
    have a2 : j < 0 + 8 := by omega
    rw [if_pos a0, if_neg a1, if_pos a2, if_pos c1, Nat.sub_zero, at_take c1]
  · rw [if_neg c1]
    by_cases c2 : 8 * i ≤ j ∧ j < 8 * i + 8
    · have a0 : ¬ j < i * 8 := by omega
      have a1 : j < i * 8 + 8 := by omega
      rw [if_neg a0, if_pos a1, if_pos c2, if_neg c1, Nat.mul_comm i 8]
    · rw [if_neg c2]
      have a1 : ¬ j < 0 := by omega
      have a2 : ¬ j < 0 + 8 := by omega
      by_cases c3 : j < i * 8
      · rw [if_pos c3, if_neg a1, if_neg a2]
      · have a3 : ¬ j < i * 8 + 8 := by omega
        rw [if_neg c3, if_neg a3, if_neg a1, if_neg a2]
set_option maxRecDepth 100000 in
theorem pr_at {l : List Nat} {n i j : Nat} (hl : l.length = 8 * (n + 1)) (hj : j < 16) : at_ (pr l i) j = if j < 8 then at_ l j else at_ l (8 * i + (j - 8)) := by
  unfold pr
  have l1 : (l.take 8).length = 8 := by rw [List.length_take]; omega
  by_cases c : j < 8
  · rw [if_pos c, at_app_l (by omega), at_take c]
  · rw [if_neg c, at_app_r l1 (by omega), at_take (by omega), at_drop]
set_option maxRecDepth 100000 in
theorem pr_pt {l B : List Nat} {n i : Nat} (hl : l.length = 8 * (n + 1)) (hb : Byt l) (hB : Bts 16 B) (h1 : 1 ≤ i) (hi : i ≤ n) : pr (pt l i B) i = B := by
  have po := (pt_ok hl hb hi hB).1
  refine bts_ext (pr_len po hi) hB.1 fun j hj => ?_
  rw [pr_at po hj]
  by_cases c : j < 8
  · rw [if_pos c, pt_at hl hB.1 h1 hi, if_pos c]
  · rw [if_neg c, pt_at hl hB.1 h1 hi, if_neg (by omega), if_pos (by omega)]; congr 1; omega
set_option maxRecDepth 100000 in
theorem pt_pr {l B : List Nat} {n i : Nat} (hl : l.length = 8 * (n + 1)) (hb : Byt l) (hB : Bts 16 B) (h1 : 1 ≤ i) (hi : i ≤ n) : pt (pt l i B) i (pr l i) = l := by
  have po := pt_ok hl hb hi hB
  have pb := pr_bts hl hb hi
  refine bts_ext (pt_ok po.1 po.2 hi pb).1 hl fun j hj => ?_
  rw [pt_at po.1 pb.1 h1 hi]
  by_cases c : j < 8
  · rw [if_pos c, pr_at hl (by omega), if_pos c]
  · rw [if_neg c]
    by_cases c2 : 8 * i ≤ j ∧ j < 8 * i + 8
    · rw [if_pos c2, pr_at hl (by omega), if_neg (by omega)]; congr 1; omega
    · rw [if_neg c2, pt_at hl hB.1 h1 hi, if_neg c, if_neg c2]
section
variable {E D : List Nat → List Nat} (hE : ∀ x, Bts 16 x → Bts 16 (E x)) (hD : ∀ x, Bts 16 x → Bts 16 (D x)) (hDE : ∀ x, Bts 16 x → D (E x) = x) (hED : ∀ x, Bts 16 x → E (D x) = x)
include hE hDE in
set_option maxRecDepth 100000 in
theorem stb_stp {l : List Nat} {n i s : Nat} (hl : l.length = 8 * (n + 1)) (hb : Byt l) (h1 : 1 ≤ i) (hi : i ≤ n) (hs : s < 256) : stb D (stp E l i s) i s = l := by
  have pb := pr_bts hl hb hi
  have cb := ct_bts (hE _ pb) hs
  unfold stb stp
  rw [pr_pt hl hb cb h1 hi, ct_ct (hE _ pb), hDE _ pb, pt_pr hl hb cb h1 hi]
include hE hDE in
set_option maxRecDepth 100000 in
theorem bt_tn {l : List Nat} {n : Nat} (hn : 0 < n) (hl : l.length = 8 * (n + 1)) (hb : Byt l) : ∀ k, k ≤ 200 → bt D n k (tn E l n k) = l
  | 0, _ => rfl
  | k + 1, h => by
    have o := tn_ok hE hn hl hb k (by omega)
    have hi : k % n + 1 ≤ n := Nat.mod_lt _ hn
    show bt D n k (stb D (stp E (tn E l n k) (k % n + 1) (k + 1)) (k % n + 1) (k + 1)) = l
    rw [stb_stp hE hDE o.1 o.2 (by omega) hi (by omega)]
    exact bt_tn hn hl hb k (by omega)
end
end Go.Proofs.YtpkeofioobmmoaaGreatDoor.ae
