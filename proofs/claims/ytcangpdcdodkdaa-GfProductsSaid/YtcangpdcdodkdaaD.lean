/-
  Contracts of the functions that the statements of package gf go through: the byte whose box a byte is; what must come of fixed calls. Condition: the numbers are bytes.
-/
import Derived.Test.YtcangpdcdodkdaaC
namespace Go.Proofs.Ytcangpdcdodkdaa
open Go.RowKit
/-- The byte whose box it is. -/
def unb (a : Nat) : Nat := (krow 256).getD a 0
theorem unb_all : alln (fun a => cond (Nat.beq (unb (box a)) a) (cond (Nat.beq (box (unb a)) a) (Nat.blt (unb a) 256) false) false) 256 = true := by decide +kernel
theorem unb_of {a : Nat} (h : a < 256) : unb (box a) = a ∧ box (unb a) = a ∧ unb a < 256 := by
  have := alln_of unb_all a h
  cases e1 : Nat.beq (unb (box a)) a
  · rw [e1] at this; simp at this
  · rw [e1, cond_true] at this
    cases e2 : Nat.beq (box (unb a)) a
    · rw [e2] at this; simp at this
    · rw [e2, cond_true] at this
      exact ⟨Nat.eq_of_beq_eq_true e1, Nat.eq_of_beq_eq_true e2, Nat.le_of_ble_eq_true this⟩
set_option maxRecDepth 100000 in
set_option maxHeartbeats 2000000 in
theorem unbox (a : Nat) (ha : a < 256) (w : World) : Calls Try.prog 28 #[.int .u8 a] w fun e w' => e = .returned (.int .u8 (unb a : Nat)) ∧ Below w.heap.size w w' := by
  have z27 := zero27
  obtain ⟨Z, hZ⟩ : ∃ Z, Z = ncells (zeros 256) := ⟨_, rfl⟩
  rw [← hZ] at z27
  have hzl : Z.size = 256 := by rw [hZ, nsize, zeros_len]
  have BX := boxes
  have hl2 := brow_len 256
  have hl3 := krow_len 256
  obtain ⟨R, hR⟩ : ∃ R, R = brow 256 := ⟨_, rfl⟩
  obtain ⟨S, hS⟩ : ∃ R, R = krow 256 := ⟨_, rfl⟩
  rw [← hR] at hl2 BX
  rw [← hS] at hl3 BX
  have hU : unb a = S.getD a 0 := by rw [hS]; rfl
  have hc := ncell S a (by omega)
  rw [← hU] at hc
  have iR : (Try.prog.info? 27).map (·.size) = some (ncells R).size := by rw [info27, nsize, hl2]
  have iS : (Try.prog.info? 27).map (·.size) = some (ncells S).size := by rw [info27, nsize, hl3]
  have oR := none_ R
  have oS := none_ S
  have zR : Z.size = (ncells R).size := by rw [hzl, nsize, hl2]
  have zS : Z.size = (ncells S).size := by rw [hzl, nsize, hl3]
  obtain ⟨CR, hCR⟩ : ∃ C, C = ncells R := ⟨_, rfl⟩
  obtain ⟨CS, hCS⟩ : ∃ C, C = ncells S := ⟨_, rfl⟩
  rw [← hCR] at iR oR zR BX
  rw [← hCS] at iS oS zS BX hc
  have HBX := Lib.hid BX
  have IR := Lib.hid iR
  have OR := Lib.hid oR
  have ZR := Lib.hid zR
  have IS := Lib.hid iS
  have OS := Lib.hid oS
  have ZS := Lib.hid zS
  have HC := Lib.hid hc
  clear hZ hzl hl2 hl3 hR hS hCR hCS iR oR zR iS oS zS hU BX hc
  go_enter Try.func28, Try.ntmps28
  go_wp2_with fail
  refine (HBX.out _).mono ?_
  rintro e w1 ⟨rfl, hb⟩
  have B1 := Lib.hid hb
  clear hb
  have g0 : ((w1.alloc (.cells Z 27)).alloc (.cells Z 27)).heap[w1.heap.size]? = some (.cells Z 27 (0, 0)) := by
    rw [Below.heap_alloc _ _ _ (by simp)]; exact heap_alloc_new w1 _
  have g1 : (((w1.alloc (.cells Z 27)).alloc (.cells Z 27)).setRow w1.heap.size CR).heap[w1.heap.size + 1]? = some (.cells Z 27 (0, 0)) := by
    rw [setRow_other _ _ _ _ (by omega)]; exact heap_alloc2_new w1 _ _
  have c1 := (cell_of_row _ _ a _ _ _ (setRow_heap _ _ _ CS _ _ g1)).trans HC.out
  have G0 := Lib.hid g0
  have G1 := Lib.hid g1
  clear g0 g1
  go_wp2_with (first
    | (refine wpList_store_row rfl 27 (.tmp 3) (.tmp 7) rfl w1.heap.size CR rfl rfl 27 Z G0.out IR.out ZR.out OR.out ?_)
    | (refine wpList_store_row rfl 27 (.tmp 4) (.tmp 8) rfl (w1.heap.size + 1) CS rfl rfl 27 Z G1.out IS.out ZS.out OS.out ?_))
  go_ret
  refine ⟨rfl, ?_⟩
  exact ((((B1.out.alloc B1.out.size _).alloc (by have := B1.out.size; simp; omega) _).trans (below_row _ _ B1.out.size)).trans (below_row _ _ (by have := B1.out.size; omega)))
end Go.Proofs.Ytcangpdcdodkdaa
