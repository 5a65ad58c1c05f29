/-
  Contracts of the functions that the statements of package aes go through: a round key. Condition: the numbers are bytes.
-/
import Derived.Test.YtpkeofioobmmoaaGreatDoorAeAesA
import Derived.Laws.CopyRow
import Derived.IntWalk
import Derived.StillTailTactics
namespace Go.Proofs.YtpkeofioobmmoaaGreatDoor.ae
open Go.RowKit
/-- A call of copy whose run is known, in a plain region. -/
theorem wpList_copy_run {ops : Array Oper} {rest : List Oper} {o : Oper} {a : Act} {w : World} {Q : Exit → Act → World → Prop} (hgd : o.guard = none) (s x : Operand)
    (ho : o.op = .call { callee := .builtin .copy, args := #[s, x], argTypes := #[31, 31] }) (hty : o.type = 3) {v u v' : Value} {w' : World} (hs : a.eval s = v) (hx : a.eval x = u)
    (hr : (Builtin.copy_ #[31, 31] 3 #[v, u]).run Tryz.prog w = .ok v' w') (h : wpList Tryz.prog ops Q rest (a.put o.dst v') w') : wpList Tryz.prog ops Q (o :: rest) a w := by
  refine wpList_plain hgd fun K hK => ?_
  unfold Oper.wp execOp
  simp only [ho, hty, resolve, invoke, builtin, Sem.run_bind, Sem.run_pure, Result.andThen_ok, List.map_toArray, List.map_cons, List.map_nil, hs, hx, hr]
  exact hK _ _ h
theorem addr_add (g o n : Nat) : (⟨g, o, none⟩ : Addr).add n = ⟨g, o + n, none⟩ := by unfold Addr.add; split <;> simp_all
theorem info5s : (Tryz.prog.info? 5).map (·.size) = some 1 := by kernel_rfl
theorem und47 : Tryz.prog.underlying 77 = some (.array (Tryz.prog.arrayLen 77) (Tryz.prog.elem 77)) := by kernel_rfl
theorem len47 : Tryz.prog.arrayLen 77 = 16 := by kernel_rfl
theorem size47 (W : World) : (sizeOf (Tryz.prog.elem 77)).run Tryz.prog W = .ok 1 W := by kernel_rfl
/-- 'a[n:]' of a block. -/
theorem arr16_from (g n : Nat) (z : Int) (hz : z = n) (hn : n < 16) (W : World) : (Instr.sliceAt 77 (.pointer (some ⟨g, 0, none⟩)) (some (.int .i64 z)) none none).run Tryz.prog W = .ok (.slice (some ⟨g, n, none⟩) (16 - n) (16 - n)) W := by
  subst hz
  rw [run_sliceAt_array_l W 77 ⟨g, 0, none⟩ und47 .i64 n (by omega) (by rw [len47]; omega), size47]
  have e : (16 = (n : Int).toNat) = False := by simp; omega
  simp only [Result.andThen, slicedAt, len47, Int.toNat_natCast, Nat.mul_one, addr_add]
  rw [if_neg (by omega), Nat.zero_add]
theorem und40 : Tryz.prog.underlying 81 = some (.array (Tryz.prog.arrayLen 81) (Tryz.prog.elem 81)) := by kernel_rfl
theorem len40 : Tryz.prog.arrayLen 81 = 4 := by kernel_rfl
theorem size40 (W : World) : (sizeOf (Tryz.prog.elem 81)).run Tryz.prog W = .ok 1 W := by kernel_rfl
/-- 'a[:]' of a word. -/
theorem arr4_all (g o : Nat) (W : World) : (Instr.sliceAt 81 (.pointer (some ⟨g, o, none⟩)) none none none).run Tryz.prog W = .ok (.slice (some ⟨g, o, none⟩) 4 4) W := by
  rw [run_sliceAt_array_all W 81 ⟨g, o, none⟩ und40, size40]
  simp [Result.andThen, slicedAt, len40, addr_add]
/-- Four places more. -/
theorem upto_four (i : Nat) (R old : List Nat) (hR : R.length = 16) (_ho : old.length = 16) (hi : 4 * i + 4 ≤ 16) :
    ((ncells (upto (4 * i) R old)).toList.take (4 * i) ++ (((R.drop (4 * i)).take 4).map fun (n : Nat) => Value.int .u8 (n : Int)) ++ (ncells (upto (4 * i) R old)).toList.drop (4 * i + 4)).toArray = ncells (upto (4 * (i + 1)) R old) := by
  have e : ∀ k, upto k R old = (upto k R old) := fun _ => rfl
  unfold ncells
  congr 1
  rw [← List.map_take, ← List.map_drop, ← List.map_append, ← List.map_append]
  congr 1
  apply List.ext_getElem?
  intro j
  have g : ∀ k j, j < 16 → (upto k R old)[j]? = some (if j < k then at_ R j else at_ old j) := fun k j hj => by simp [upto, tab, hj]
  by_cases hj : j < 16
  · rw [g _ _ hj]
    by_cases h1 : j < 4 * i
    · rw [List.getElem?_append_left (by simp [upto_len]; omega), List.getElem?_append_left (by simp [upto_len]; omega), List.getElem?_take_of_lt h1, g _ _ hj, if_pos h1, if_pos (by omega)]
    · by_cases h2 : j < 4 * i + 4
      · rw [List.getElem?_append_left (by simp [upto_len, hR]; omega), List.getElem?_append_right (by simp [upto_len]; omega), if_pos (by omega)]
        have hl : (List.take (4 * i) (upto (4 * i) R old)).length = 4 * i := by simp [upto_len]; omega
        rw [hl, List.getElem?_take_of_lt (by omega), List.getElem?_drop, show 4 * i + (j - 4 * i) = j by omega]
        simp [at_, List.getD, show j < R.length by omega]
      · rw [List.getElem?_append_right (by simp [upto_len, hR]; omega), if_neg (by omega)]
        have hl : (List.take (4 * i) (upto (4 * i) R old) ++ List.take 4 (List.drop (4 * i) R)).length = 4 * i + 4 := by simp [upto_len, hR]; omega
        rw [hl, List.getElem?_drop, show 4 * i + 4 + (j - (4 * i + 4)) = j by omega, g _ _ hj, if_neg (by omega)]
  · rw [List.getElem?_eq_none (by simp [upto_len, hR]; omega), List.getElem?_eq_none (by rw [upto_len]; omega)]
/-- A round key out of the words, one behind the other. -/
def rkf (F : List Nat) (n : Nat) : List Nat := tab 16 fun i => at_ F (16 * n + i)
set_option maxRecDepth 100000 in
set_option maxHeartbeats 2000000 in
theorem roundKey (F : List Nat) (gc n : Nat) (hn : n ≤ 14) (w : World) (hc : ∀ j, j < 240 → w.cell? ⟨gc, j, none⟩ = some (.int .u8 (at_ F j : Nat))) :
    Calls Tryz.prog 64 #[.pointer (some ⟨gc, 0, none⟩), .int .i64 n] w fun e w' => e = .returned (.agg (ncells (rkf F n))) ∧ Below w.heap.size w w' := by
  have zz := zero47
  obtain ⟨Z, hZ⟩ : ∃ Z, Z = ncells (zeros 16) := ⟨_, rfl⟩
  rw [← hZ] at zz
  obtain ⟨R, hR⟩ : ∃ R, R = rkf F n := ⟨_, rfl⟩
  have hRl : R.length = 16 := by rw [hR]; exact tab_len _ _
  have hRa : ∀ i, i < 16 → at_ R i = at_ F (16 * n + i) := fun i hi => by rw [hR, rkf, tab_at _ _ _ hi]
  have IR := Lib.hid (i47 hRl)
  have ZR : Hid (Z.size = (ncells R).size) := by show _ = _; rw [hZ]; exact z47 hRl
  have OR := Lib.hid (none_ R)
  have UZ : Hid (ncells (upto (4 * 0) R (zeros 16)) = Z) := by show _ = _; rw [hZ, Nat.mul_zero, upto_zero (zeros_len 16)]
  have UA : Hid (upto (4 * 4) R (zeros 16) = R) := upto_all hRl
  have HRL := Lib.hid hRl
  have HRA := Lib.hid hRa
  have HC := Lib.hid hc
  have LC : Hid (gc < w.heap.size) := World.block_lt_of_cell? w _ (hc 0 (by omega))
  rw [← hR]
  clear hZ hR hRl hRa hc
  go_enter Tryz.func64, Tryz.ntmps64
  go_wp2_with fail
  go_loopw [6, 7] (fun _ vi wr => ∃ i : Nat, i ≤ 4 ∧ vi = .int .i64 i ∧ wr.heap[w.heap.size]? = some (.cells Z 77 (0, 0)) ∧ wr.heap[w.heap.size + 1]? = some (.cells (ncells (upto (4 * i) R (zeros 16))) 77 (0, 0)) ∧ Below w.heap.size w wr) (fun _ vi _ => 4 - (intOf vi).toNat)
  case atStart =>
    refine ⟨0, by omega, rfl, ?_, ?_, ((Below.refl _ _).alloc (Nat.le_refl _) _).alloc (by simp) _⟩
    · rw [Below.heap_alloc _ _ _ (by simp)]; exact heap_alloc_new w _
    · rw [UZ.out]; exact heap_alloc2_new w _ _
  case round =>
    obtain ⟨i, hi, rfl, hg0, hg1, hbel⟩ := hrel
    by_cases hlt : i < 4
    · obtain ⟨m, hm⟩ : ∃ m, m = 4 * n + i := ⟨_, rfl⟩
      have hsrc : ∀ j, j < 4 → wr.cell? ⟨gc, m * 4 + j, none⟩ = some (.int .u8 (at_ R (4 * i + j) : Nat)) := fun j hj => by
        rw [hbel.cell (p := ⟨gc, m * 4 + j, none⟩) LC.out, HC.out _ (by omega), HRA.out _ (by omega)]
        rw [show 16 * n + (4 * i + j) = m * 4 + j by omega]
      have hrun := run_copy_row Tryz.prog wr.drew 31 31 3 5 (w.heap.size + 1) (4 * i) (16 - 4 * i) (16 - 4 * i) ⟨gc, m * 4, none⟩ 4 4 (ncells (upto (4 * i) R (zeros 16))) 77 (((R.drop (4 * i)).take 4).map fun (n : Nat) => Value.int .u8 (n : Int)) Tryz.underlying31 info5s hg1
        (by rw [List.length_map, List.length_take, List.length_drop, HRL.out])
        (fun j u hj => by
          have hj4 : j < 4 := by
            rcases Nat.lt_or_ge j 4 with h | h
            · exact h
            · rw [List.getElem?_eq_none (by simp; omega)] at hj; cases hj
          rw [addr_add]
          refine (hsrc j hj4).trans ?_
          rw [← hj]
          have : 4 * i + j < R.length := by rw [HRL.out]; omega
          simp [hj4, at_, List.getD, this])
        (by rw [List.length_map, List.length_take, List.length_drop, HRL.out, nsize, upto_len]; omega) (fun z hz => by obtain ⟨_, _, rfl⟩ := List.mem_map.1 hz; rfl)
      have hl4 : (((R.drop (4 * i)).take 4).map fun (n : Nat) => Value.int .u8 (n : Int)).length = 4 := by rw [List.length_map, List.length_take, List.length_drop, HRL.out]; omega
      rw [hl4, upto_four i R (zeros 16) HRL.out (zeros_len 16) (by omega)] at hrun
      have HRUN := Lib.hid hrun
      have s1 := arr16_from (w.heap.size + 1) (4 * i) (4 * (i : Int)) (by omega) (by omega)
      have s2 := arr4_all gc (m * 4)
      have e1 : IntKind.i64.wrap (4 * (i : Int)) = 4 * (i : Int) := IntWalk.i64_in _ (by omega)
      have e2 : IntKind.i64.wrap (4 * (n : Int)) = 4 * (n : Int) := IntWalk.i64_in _ (by omega)
      have e3 : IntKind.i64.wrap (4 * (n : Int) + (i : Int)) = (m : Int) := by rw [IntWalk.i64_in _ (by omega)]; omega
      have m0 : (0 : Int) ≤ m := by omega
      have m1 : (m : Int) < 60 := by omega
      have G0 := Lib.hid hg0
      have G1 := Lib.hid hg1
      have HB := Lib.hid hbel
      clear hg0 hg1 hbel hsrc hrun hl4 hm
      go_wp2_with fail
      go_still_tail 12, (by kernel_rfl)
      change wpList _ _ _ _ _ wr.drew
      clear s1 s2 e1 e2 e3
      go_wp2_with (refine wpList_copy_run rfl (.tmp 12) (.tmp 21) rfl rfl rfl rfl HRUN.out ?_)
      go_roundw
      case rel =>
        refine ⟨i + 1, by omega, by go_num, ?_, ?_, (HB.out.trans (Below.refl _ _).drew).trans (below_row (B := w.heap.size) (g := w.heap.size + 1) _ _ (by omega))⟩
        · rw [setRow_other _ _ _ _ (by omega)]; exact G0.out
        · exact setRow_heap _ _ _ _ _ _ G1.out
      case measure => simp [intOf]; omega
    · obtain rfl : i = 4 := by omega
      rw [UA.out] at hg1
      have G0 := Lib.hid hg0
      have G1 := Lib.hid hg1
      have HB := Lib.hid hbel
      clear hg0 hg1 hbel
      go_wp2_with (first
        | (refine wpList_load_row rfl 77 (.tmp 5) rfl (w.heap.size + 1) rfl 77 (ncells R) (0, 0) _ G1.out Tryz.underlying77 rfl IR.out ?_)
        | (refine wpList_store_row rfl 77 (.tmp 4) (.tmp 24) rfl w.heap.size (ncells R) rfl rfl 77 Z G0.out IR.out ZR.out OR.out ?_))
      refine bodyPost_ret (v := .agg (ncells R)) (results_cell_row Tryz.results64 _ _ w.heap.size 77 _ (0, 0) _ rfl (setRow_heap _ _ _ _ _ _ G0.out) Tryz.underlying77 rfl IR.out) rfl ⟨rfl, ?_⟩
      exact HB.out.trans (below_row _ _ (by omega))
end Go.Proofs.YtpkeofioobmmoaaGreatDoor.ae
