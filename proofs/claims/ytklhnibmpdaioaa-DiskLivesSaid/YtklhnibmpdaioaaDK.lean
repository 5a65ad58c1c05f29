/-
  The fixed calls of disk (alive). Condition: none.
-/
import Derived.Test.YtklhnibmpdaioaaDJ
namespace Go.Proofs.Ytklhnibmpdaioaa
open Go.RowKit
/-- A disk of the call's own. -/
structure LK (w0 w : World) (g N sb hb : Nat) (wv : Value) (su : Nat → Option Nat) (ws : List (Nat × Nat)) (rg : List Value) (c p : Int) (d : Bool) (K : Nat) : Prop where
  dk : DK w g N sb hb wv su ws rg c p d K
  b : Below w0.heap.size w0 w
  og : w0.heap.size ≤ g
  os : w0.heap.size ≤ sb
  oh : w0.heap.size ≤ hb
  ov : ∀ k, wv.ownBlock = some k → w0.heap.size ≤ k
section
variable {w0 w w' : World} {g N sb hb : Nat} {wv wv' : Value} {su su' : Nat → Option Nat} {ws ws' : List (Nat × Nat)} {rg rg' : List Value} {c p c' p' : Int} {d d' : Bool} {K K' : Nat}
theorem LK.step (h : LK w0 w g N sb hb wv su ws rg c p d K) (k : DkW w w' g N sb hb wv wv' su' ws' rg' c' p' d' K') : LK w0 w' g N sb hb wv' su' ws' rg' c' p' d' K' := by
  refine ⟨k.dk, Mods.below h.b k.m h.b.size (fun b hb' => ?_), h.og, h.os, h.oh, fun j hj => ?_⟩
  · rcases hb' with rfl | rfl | rfl | e
    · exact h.og
    · exact h.os
    · exact h.oh
    · exact h.ov b e
  · rcases k.an j hj with e | e
    · exact h.ov j e
    · have := h.b.size; omega
theorem LK.below (h : LK w0 w g N sb hb wv su ws rg c p d K) (b : Below w.heap.size w w') : LK w0 w' g N sb hb wv su ws rg c p d K :=
  ⟨h.dk.below b, h.b.trans (b.mono h.b.size), h.og, h.os, h.oh, h.ov⟩
end
set_option maxRecDepth 100000 in
set_option maxHeartbeats 4000000 in
theorem aliveD (w : World) : Calls Try.prog 16 #[] w fun e w' => e = .returned (.bool true) ∧ Below w.heap.size w w' := by
  go_enter Try.func16, Try.ntmps16
  go_wp2_with fail
  refine (newD 9 (by omega) (by omega) w).mono ?_
  rintro e w1 ⟨g, sb, hb, rfl, h, h1, h2, h3, hbl⟩
  have L1 : Hid (LK w w1 g 9 sb hb (.slice none 0 0) (fun _ => none) [] (List.replicate 64 (.int .u8 0)) 0 (-1) false 0) := ⟨h, hbl, h1, h2, h3, fun k hk => by simp [Value.ownBlock] at hk⟩
  clear h hbl h1 h2 h3
  generalize List.replicate 64 (Value.int .u8 0) = rg at *
  go_wp2_with fail
  refine (fullAny 1 0 512 (by omega) w1).mono ?_
  rintro e w2 ⟨b2, rfl, k1, _, k3⟩
  have L2 := Lib.hid (L1.out.below k3)
  clear k1 k3 L1
  go_wp2_with fail
  refine (writeD_err L2.out.dk 9 (some ⟨b2, 0, none⟩) 512 512 (by omega) (by decide)).mono ?_
  rintro e w3 ⟨rfl, hbl⟩
  have L3 := Lib.hid (L2.out.below hbl)
  clear hbl L2
  have we : wE false 9 9 512 = 31 := rfl
  rw [we]
  clear we
  go_wp2_with fail
  refine (fullAny 1 0 512 (by omega) w3).mono ?_
  rintro e w4 ⟨b4, rfl, k1, _, k3⟩
  have L4 := Lib.hid (L3.out.below k3)
  have T4 : Hid (TX w4 (.slice (some ⟨b4, 0, none⟩) 512 512) (tx 1)) := ⟨b4, by rw [tx_len], k1⟩
  clear k1 k3 L3
  go_wp2_with fail
  refine (writeD_ok L4.out.dk 3 1 _ (by omega) T4.out (by omega) (by omega) (by omega) (by omega) (by omega) (by omega)).mono ?_
  rintro e w5 ⟨v5, rfl, hd⟩
  have L5 := Lib.hid (L4.out.step hd)
  clear hd L4 T4
  go_wp2_with fail
  refine (flushD_ok L5.out.dk (by omega) (by omega) (by unfold pl; omega) (by unfold pl; omega)).mono ?_
  rintro e w6 ⟨v6, rfl, hd⟩
  have L6 := Lib.hid (L5.out.step hd)
  clear hd L5
  go_wp2_with fail
  refine (fullAny 2 0 512 (by omega) w6).mono ?_
  rintro e w7 ⟨b7, rfl, k1, _, k3⟩
  have L7 := Lib.hid (L6.out.below k3)
  have T7 : Hid (TX w7 (.slice (some ⟨b7, 0, none⟩) 512 512) (tx 2)) := ⟨b7, by rw [tx_len], k1⟩
  clear k1 k3 L6
  go_wp2_with fail
  refine (writeD_ok L7.out.dk 3 2 _ (by omega) T7.out (by omega) (by omega) (by omega) (by unfold pl; omega) (by unfold pl; omega) (by omega)).mono ?_
  rintro e w8 ⟨v8, rfl, hd⟩
  have L8 := Lib.hid (L7.out.step hd)
  clear hd L7 T7
  go_wp2_with fail
  refine (fullAny 3 0 512 (by omega) w8).mono ?_
  rintro e w9 ⟨b9, rfl, k1, _, k3⟩
  have L9 := Lib.hid (L8.out.below k3)
  have T9 : Hid (TX w9 (.slice (some ⟨b9, 0, none⟩) 512 512) (tx 3)) := ⟨b9, by rw [tx_len], k1⟩
  clear k1 k3 L8
  go_wp2_with fail
  refine (writeD_ok L9.out.dk 3 3 _ (by omega) T9.out (by omega) (by omega) (by omega) (by unfold pl; omega) (by unfold pl; omega) (by omega)).mono ?_
  rintro e w10 ⟨v10, rfl, hd⟩
  have L10 := Lib.hid (L9.out.step hd)
  clear hd L9 T9
  go_wp2_with fail
  obtain ⟨bk, hbk⟩ : ∃ bk, bk = w10.heap.size := ⟨_, rfl⟩
  obtain ⟨w11, hw11⟩ : ∃ w11, w11 = w10.alloc (.cells #[.int .u8 1] 5) := ⟨_, rfl⟩
  have bl11 : Below w10.heap.size w10 w11 := by rw [hw11]; exact (Below.refl _ _).alloc (Nat.le_refl _) _
  have L11 := Lib.hid (L10.out.below bl11)
  have hkr : w11.heap[bk]? = some (.cells #[.int .u8 1] 5 (0, 0)) := by rw [hw11, hbk]; exact heap_alloc_new _ _
  have CR := Lib.hid (crashD L11.out.dk (some ⟨bk, 0, none⟩) 1 1 (fun _ => 1) (by omega) (fun j hj => ⟨by omega, by omega, bk, 0, rfl, (Array.getElem?_eq_some_iff.1 hkr).1, L11.out.dk.kinds.1 bk _ hkr, by
    obtain rfl : j = 0 := by omega
    rw [cell_of_row _ _ _ _ _ _ hkr]; rfl⟩))
  rw [← hw11, ← hbk]
  clear hw11 hbk hkr L10 bl11
  refine CR.out.mono ?_
  rintro e w12 ⟨v12, rfl, hd⟩
  have L12 := Lib.hid (L11.out.step hd)
  clear hd L11 CR
  go_wp2_with fail
  refine (readD_ok L12.out.dk 3 (by omega)).mono ?_
  rintro e w13 ⟨b13, rfl, k1, _, k3⟩
  have L13 := Lib.hid (L12.out.below k3)
  have hsh : shwn (keepS (kbit (fun _ => 1) 1) (allS (fun _ => none) ([] ++ [(3, 1)])) ([] ++ [(3, 2)] ++ [(3, 3)]) ([] ++ [(3, 2)] ++ [(3, 3)] : List (Nat × Nat)).length) [] 3 = some 2 := by decide +kernel
  have k1' : w13.heap[b13]? = some (.cells (bcells (tx 2)) 5 (0, 0)) := by
    have : padT (some 2) = tx 2 := rfl
    rw [← this, ← hsh]; exact k1
  have hcell : w13.cell? ⟨b13, 0, none⟩ = some (.int .u8 2) := by rw [cell_of_row _ _ _ _ _ _ k1']; rfl
  clear k1 k3 hsh k1' L12
  go_wp2_with fail
  refine (waitsD L13.out.dk).mono ?_
  rintro e w' ⟨rfl, rfl⟩
  go_wp2_with fail
  refine (callsD L13.out.dk).mono ?_
  rintro e w' ⟨rfl, rfl⟩
  go_wp2_with fail
  go_ret
  exact ⟨rfl, L13.out.b⟩
end Go.Proofs.Ytklhnibmpdaioaa
