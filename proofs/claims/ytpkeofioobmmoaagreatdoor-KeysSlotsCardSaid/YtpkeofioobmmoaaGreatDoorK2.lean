/-
  Contracts of stamps, counters and sealers. Conditions: numbers fit 64 digits.
-/
import Derived.Test.YtpkeofioobmmoaaGreatDoorK1
import Derived.Test.YtpkeofioobmmoaaGreatDoorAeWrP
import Derived.Deep.QuietTactic
import Derived.BigQuiet
import Derived.Deep.MidRow
namespace Go.Proofs.YtpkeofioobmmoaaGreatDoor
open Go.RowKit Go.Proofs.YtpkeofioobmmoaaGreatDoor.ae
theorem u64nat (n : Nat) (h : n < 18446744073709551616) : IntKind.u64.wrap (n : Int) = n := by
  show IntKind.u64.wrap (n : Int) = n
  unfold IntKind.wrap
  simp [IntKind.bits, IntKind.signed]
  omega
theorem or64 (a b : Nat) (ha : a < 18446744073709551616) (hb : b < 18446744073709551616) : bits .or .u64 (a : Int) (b : Int) = ((Nat.lor a b : Nat) : Int) := by
  have e : bits .or .u64 (a : Int) (b : Int) = IntKind.u64.wrap ((BitVec.ofInt 64 (a : Int) ||| BitVec.ofInt 64 (b : Int)).toNat : Int) := rfl
  rw [e, BitVec.ofInt_natCast, BitVec.ofInt_natCast, BitVec.toNat_or, BitVec.toNat_ofNat, BitVec.toNat_ofNat, Nat.mod_eq_of_lt (by omega), Nat.mod_eq_of_lt (by omega)]
  exact u64nat _ (Nat.or_lt_two_pow (n := 64) ha hb)
/-- The stamp of an epoch and a count. -/
def stm (e c : Nat) : Nat := 1099511627776 * e + c
theorem lor_stm (e c : Nat) (hc : c < 1099511627776) : Nat.lor (e * 1099511627776) c = stm e c := by
  have h := Nat.two_pow_add_eq_or_of_lt (i := 40) (b := c) (by omega) e
  unfold stm
  rw [Nat.mul_comm e]
  exact h.symm
set_option maxRecDepth 100000 in
set_option maxHeartbeats 1000000 in
theorem stampOK (e c : Nat) (he : e ≤ 16777215) (hc : c ≤ 1099511627775) (w : World) : Calls Tryz.prog 21 #[.int .u64 e, .int .u64 c] w fun x w' => x = .returned (.tuple #[.int .u64 (stm e c : Nat), .int .i64 0]) ∧ w = w' := by
  have h1 : ¬ (16777215 : Int) < e := by omega
  have h2 : ¬ (1099511627775 : Int) < c := by omega
  have ho : bits .or .u64 ((e : Int) * 1099511627776) (c : Int) = ((stm e c : Nat) : Int) := by
    have := or64 (e * 1099511627776) c (by omega) (by omega)
    rw [lor_stm e c (by omega)] at this
    rw [← this]; rfl
  have hw : IntKind.u64.wrap ((e : Int) * 1099511627776) = (e : Int) * 1099511627776 := by
    unfold IntKind.wrap; simp [IntKind.bits, IntKind.signed]; omega
  generalize stm e c = s at ho ⊢
  go_enter Tryz.func21, Tryz.ntmps21
  go_wp2
  go_ret2
  exact ⟨rfl, rfl⟩
/-- A counter in memory. -/
def CTcells (e t : Nat) : Array Value := #[.bool true, .int .u64 e, .int .u64 t]
def CT (w : World) (g e t : Nat) : Prop := w.heap[g]? = some (.cells (CTcells e t) 73 (0, 0))
theorem CT.below {w w' : World} {g e t : Nat} (h : CT w g e t) (hb : Below w.heap.size w w') : CT w' g e t := (hb.block _ (blk_lt h)).trans h
theorem CT.c0 {w : World} {g e t : Nat} (h : CT w g e t) : w.cell? ⟨g, 0, none⟩ = some (.bool true) := by rw [cell_of_row _ _ _ _ _ _ h]; rfl
theorem CT.c1 {w : World} {g e t : Nat} (h : CT w g e t) : w.cell? ⟨g, 1, none⟩ = some (.int .u64 e) := by rw [cell_of_row _ _ _ _ _ _ h]; rfl
theorem CT.c2 {w : World} {g e t : Nat} (h : CT w g e t) : w.cell? ⟨g, 2, none⟩ = some (.int .u64 t) := by rw [cell_of_row _ _ _ _ _ _ h]; rfl
set_option maxRecDepth 100000 in
set_option maxHeartbeats 1000000 in
theorem countOK (e : Nat) (he : e ≤ 16777215) (w : World) : Calls Tryz.prog 22 #[.int .u64 e] w fun x w' => x = .returned (.tuple #[.pointer (some ⟨w.heap.size, 0, none⟩), .int .i64 0]) ∧ CT w' w.heap.size e 0 ∧ Below w.heap.size w w' := by
  have h1 : ¬ (16777215 : Int) < e := by omega
  have HB : Hid (Below w.heap.size w (w.alloc (.cells #[.bool true, .int .u64 e, .int .u64 0] 73))) := (Below.refl _ _).alloc (Nat.le_refl _) _
  have G0 := Lib.hid (heap_alloc_new w (.cells #[.bool true, .int .u64 e, .int .u64 0] 73))
  clear he
  go_enter Tryz.func22, Tryz.ntmps22
  go_wp2
  go_ret2
  exact ⟨rfl, G0.out, HB.out⟩
def NextP (w : World) (g e t : Nat) (x : Ending) (w' : World) : Prop :=
  x = .returned (.tuple #[.int .u64 (stm e (t + 1) : Nat), .int .i64 0]) ∧ CT w' g e (t + 1) ∧ Elsewhere g w w'
theorem else_cell {w W : World} {g o : Nat} (hb : Below w.heap.size w W) (v : Value) : Elsewhere g w (W.setCell ⟨g, o, none⟩ v) :=
  ⟨fun k hk hne => by rw [heap_setCell_other _ _ _ _ (fun e => hne (by simpa using e))]; exact hb.block _ hk, fun base a h1 h2 h3 => (h3.trans (hb.mono h2)).setCell (by simpa using h1) _, by
    have := hb.size
    have e : (W.setCell ⟨g, o, none⟩ v).heap.size = W.heap.size := by simp
    omega⟩
set_option maxRecDepth 100000 in
set_option maxHeartbeats 2000000 in
theorem nextC (g e t : Nat) (he : e ≤ 16777215) (ht : t + 1 ≤ 1099511627775) (w : World) (h : CT w g e t) : Calls Tryz.prog 23 #[.pointer (some ⟨g, 0, none⟩)] w (NextP w g e t) := by
  have ST : Hid (∀ W : World, Calls Tryz.prog 21 #[.int .u64 e, .int .u64 ((t : Int) + 1)] W fun x w' => x = .returned (.tuple #[.int .u64 (stm e (t + 1) : Nat), .int .i64 0]) ∧ Below W.heap.size W w') := fun W => (stampOK e (t + 1) he ht W).mono fun _ _ ⟨h, k⟩ => ⟨h, by rw [← k]; exact Below.refl _ _⟩
  have c0 := h.c0
  have c1 := h.c1
  have c2 := h.c2
  have fz := frozen_of_row w g 2 _ 73 h
  have e1 : IntKind.u64.wrap ((t : Int) + 1) = (t : Int) + 1 := by
    have := u64nat (t + 1) (by omega)
    simpa using this
  have p1 : (0 : Int) ≤ (t : Int) + 1 := by omega
  have p2 : (t : Int) + 1 ≤ 1099511627775 := by omega
  have H := Lib.hid h
  have C1 := Lib.hid c1
  have C2 := Lib.hid c2
  have HGL : Hid (g < w.heap.size) := blk_lt h
  have HT := Lib.hid ht
  clear h he ht c1 c2
  go_enter Tryz.func23, Tryz.ntmps23
  go_wp2_with fail
  clear c0
  refine wp_region_held_drew (S := fun W => Below w.heap.size w W) (by kernel_rfl) ((Below.refl _ _).drew) (fun hS => ?_)
  have hb0 : Below w.heap.size w w.drew := (Below.refl _ _).drew
  clear hb0 
  generalize w.drew = Wns at hS  ⊢
  refine' wpAnyH_take (i := 0) ?h1x0n ?hsx0n ?hfx0n ?hrx0n ?hQx0n (Or.inl ⟨?hwx0n, ?hyx0n⟩) hS ?restx0n
  case h1x0n => (simp only [List.getElem?_toArray, List.getElem?_cons_zero]; rfl)
  case hsx0n | hfx0n | hrx0n => kernel_rfl
  case hQx0n => exact fun _ _ _ h => h
  case hwx0n => rfl
  case hyx0n =>
    intro W hW
    go_simp
    try with_reducible rfl
  simp only [Act.put, List.setIfInBounds_toArray, List.set_cons_succ, List.set_cons_zero]
  refine' wpAnyH_take (i := 4) ?h1x4n ?hsx4n ?hfx4n ?hrx4n ?hQx4n (Or.inl ⟨?hwx4n, ?hyx4n⟩) hS ?restx4n
  case h1x4n => (simp only [List.getElem?_toArray, List.getElem?_cons_succ, List.getElem?_cons_zero]; rfl)
  case hsx4n | hfx4n | hrx4n => kernel_rfl
  case hQx4n => exact fun _ _ _ h => h
  case hwx4n => rfl
  case hyx4n =>
    intro W hW
    go_simp
    try with_reducible rfl
  simp only [Act.put, List.setIfInBounds_toArray, List.set_cons_succ, List.set_cons_zero]
  refine' wpAnyH_take (i := 1) ?h1x1n ?hsx1n ?hfx1n ?hrx1n ?hQx1n (Or.inl ⟨?hwx1n, ?hyx1n⟩) hS ?restx1n
  case h1x1n => (simp only [List.getElem?_toArray, List.getElem?_cons_succ, List.getElem?_cons_zero]; rfl)
  case hsx1n | hfx1n | hrx1n => kernel_rfl
  case hQx1n => exact fun _ _ _ h => h
  case hwx1n => rfl
  case hyx1n =>
    intro W hW
    go_simp
    try with_reducible rfl
  simp only [Act.put, List.setIfInBounds_toArray, List.set_cons_succ, List.set_cons_zero]
  refine' wpAnyH_take (i := 5) ?h1x5n ?hsx5n ?hfx5n ?hrx5n ?hQx5n (Or.inl ⟨?hwx5n, ?hyx5n⟩) hS ?restx5n
  case h1x5n => (simp only [List.getElem?_toArray, List.getElem?_cons_succ, List.getElem?_cons_zero]; rfl)
  case hsx5n | hfx5n | hrx5n => kernel_rfl
  case hQx5n => exact fun _ _ _ h => h
  case hwx5n => rfl
  case hyx5n =>
    intro W hW
    go_simp
    try with_reducible rfl
  simp only [Act.put, List.setIfInBounds_toArray, List.set_cons_succ, List.set_cons_zero]
  refine' wpAnyH_take (i := 2) ?h1x2n ?hsx2n ?hfx2n ?hrx2n ?hQx2n (Or.inl ⟨?hwx2n, ?hyx2n⟩) hS ?restx2n
  case h1x2n => (simp only [List.getElem?_toArray, List.getElem?_cons_succ, List.getElem?_cons_zero]; rfl)
  case hsx2n | hfx2n | hrx2n => kernel_rfl
  case hQx2n => exact fun _ _ _ h => h
  case hwx2n => rfl
  case hyx2n =>
    intro W hW
    go_simp
    try with_reducible rfl
  simp only [Act.put, List.setIfInBounds_toArray, List.set_cons_succ, List.set_cons_zero]
  refine' wpAnyH_take (i := 6) ?h1x6n ?hsx6n ?hfx6n ?hrx6n ?hQx6n (Or.inl ⟨?hwx6n, ?hyx6n⟩) hS ?restx6n
  case h1x6n => (simp only [List.getElem?_toArray, List.getElem?_cons_succ, List.getElem?_cons_zero]; rfl)
  case hsx6n | hfx6n | hrx6n => kernel_rfl
  case hQx6n => exact fun _ _ _ h => h
  case hwx6n => rfl
  case hyx6n =>
    intro W hW
    go_simp
    try with_reducible rfl
  simp only [Act.put, List.setIfInBounds_toArray, List.set_cons_succ, List.set_cons_zero]
  refine' wpAnyH_take (i := 3) ?h1x3n ?hsx3n ?hfx3n ?hrx3n ?hQx3n (Or.inl ⟨?hwx3n, ?hyx3n⟩) hS ?restx3n
  case h1x3n => (simp only [List.getElem?_toArray, List.getElem?_cons_succ, List.getElem?_cons_zero]; rfl)
  case hsx3n | hfx3n | hrx3n => kernel_rfl
  case hQx3n => exact fun _ _ _ h => h
  case hwx3n => rfl
  case hyx3n =>
    intro W hW
    have k1 := (hW.cell (p := ⟨g, 1, none⟩) HGL.out).trans C1.out
    go_simp
    try with_reducible rfl
  simp only [Act.put, List.setIfInBounds_toArray, List.set_cons_succ, List.set_cons_zero]
  refine' wpAnyH_take (i := 7) ?h1x7n ?hsx7n ?hfx7n ?hrx7n ?hQx7n (Or.inl ⟨?hwx7n, ?hyx7n⟩) hS ?restx7n
  case h1x7n => (simp only [List.getElem?_toArray, List.getElem?_cons_succ, List.getElem?_cons_zero]; rfl)
  case hsx7n | hfx7n | hrx7n => kernel_rfl
  case hQx7n => exact fun _ _ _ h => h
  case hwx7n => rfl
  case hyx7n =>
    intro W hW
    have k2 := (hW.cell (p := ⟨g, 2, none⟩) HGL.out).trans C2.out
    go_simp
    try with_reducible rfl
  simp only [Act.put, List.setIfInBounds_toArray, List.set_cons_succ, List.set_cons_zero]
  refine' wpAnyH_take (i := 8) ?h1x8n ?hsx8n ?hfx8n ?hrx8n ?hQx8n (Or.inl ⟨?hwx8n, ?hyx8n⟩) hS ?restx8n
  case h1x8n => (simp only [List.getElem?_toArray, List.getElem?_cons_succ, List.getElem?_cons_zero]; rfl)
  case hsx8n | hfx8n | hrx8n => kernel_rfl
  case hQx8n => exact fun _ _ _ h => h
  case hwx8n => rfl
  case hyx8n =>
    intro W hW
    go_simp
    try with_reducible rfl
  simp only [Act.put, List.setIfInBounds_toArray, List.set_cons_succ, List.set_cons_zero]
  refine wpAnyH_ready (rs := [9]) (by kernel_rfl) (by simp) ?_
  refine' (AllReadyH.cons ?hoc9n (fun K hK => ?stc9n) AllReadyH.nil)
  case hoc9n => (simp only [List.getElem?_toArray, List.getElem?_cons_succ, List.getElem?_cons_zero]; rfl)
  go_simp
  refine (ST.out Wns).mono ?_
  rintro e Wnx9 ⟨rfl, hb⟩
  go_wp2_with fail
  refine hK.out _ _ (hS.trans (hb.mono hS.size)) (fun hHeld => ?_)
  clear hK K
  try simp only [Act.put, List.setIfInBounds_toArray, List.set_cons_succ, List.set_cons_zero]
  clear hS
  have hS := hHeld
  clear hHeld
  clear hb
  refine' wpAnyH_take (i := 10) ?h1x10nx9 ?hsx10nx9 ?hfx10nx9 ?hrx10nx9 ?hQx10nx9 (Or.inl ⟨?hwx10nx9, ?hyx10nx9⟩) hS ?restx10nx9
  case h1x10nx9 => (simp only [List.getElem?_toArray, List.getElem?_cons_succ, List.getElem?_cons_zero]; rfl)
  case hsx10nx9 | hfx10nx9 | hrx10nx9 => kernel_rfl
  case hQx10nx9 => exact fun _ _ _ h => h
  case hwx10nx9 => rfl
  case hyx10nx9 =>
    intro W hW
    go_simp
    try with_reducible rfl
  simp only [Act.put, List.setIfInBounds_toArray, List.set_cons_succ, List.set_cons_zero]
  refine' wpAnyH_take (i := 11) ?h1x11nx9 ?hsx11nx9 ?hfx11nx9 ?hrx11nx9 ?hQx11nx9 (Or.inl ⟨?hwx11nx9, ?hyx11nx9⟩) hS ?restx11nx9
  case h1x11nx9 => (simp only [List.getElem?_toArray, List.getElem?_cons_succ, List.getElem?_cons_zero]; rfl)
  case hsx11nx9 | hfx11nx9 | hrx11nx9 => kernel_rfl
  case hQx11nx9 => exact fun _ _ _ h => h
  case hwx11nx9 => rfl
  case hyx11nx9 =>
    intro W hW
    go_simp
    try with_reducible rfl
  simp only [Act.put, List.setIfInBounds_toArray, List.set_cons_succ, List.set_cons_zero]
  refine' wpAnyH_take (i := 12) ?h1x12nx9 ?hsx12nx9 ?hfx12nx9 ?hrx12nx9 ?hQx12nx9 (Or.inl ⟨?hwx12nx9, ?hyx12nx9⟩) hS ?restx12nx9
  case h1x12nx9 => (simp only [List.getElem?_toArray, List.getElem?_cons_succ, List.getElem?_cons_zero]; rfl)
  case hsx12nx9 | hfx12nx9 | hrx12nx9 => kernel_rfl
  case hQx12nx9 => exact fun _ _ _ h => h
  case hwx12nx9 => rfl
  case hyx12nx9 =>
    intro W hW
    go_simp
    try with_reducible rfl
  simp only [Act.put, List.setIfInBounds_toArray, List.set_cons_succ, List.set_cons_zero]
  refine' wpAnyH_take (i := 13) ?h1x13nx9 ?hsx13nx9 ?hfx13nx9 ?hrx13nx9 ?hQx13nx9 (Or.inl ⟨?hwx13nx9, ?hyx13nx9⟩) hS ?restx13nx9
  case h1x13nx9 => (simp only [List.getElem?_toArray, List.getElem?_cons_succ, List.getElem?_cons_zero]; rfl)
  case hsx13nx9 | hfx13nx9 | hrx13nx9 => kernel_rfl
  case hQx13nx9 => exact fun _ _ _ h => h
  case hwx13nx9 => rfl
  case hyx13nx9 =>
    intro W hW
    go_simp
    try with_reducible rfl
  simp only [Act.put, List.setIfInBounds_toArray, List.set_cons_succ, List.set_cons_zero]
  refine' wpAnyH_take (i := 14) ?h1x14nx9 ?hsx14nx9 ?hfx14nx9 ?hrx14nx9 ?hQx14nx9 (Or.inl ⟨?hwx14nx9, ?hyx14nx9⟩) hS ?restx14nx9
  case h1x14nx9 => (simp only [List.getElem?_toArray, List.getElem?_cons_succ, List.getElem?_cons_zero]; rfl)
  case hsx14nx9 | hfx14nx9 | hrx14nx9 => kernel_rfl
  case hQx14nx9 => exact fun _ _ _ h => h
  case hwx14nx9 => rfl
  case hyx14nx9 =>
    intro W hW
    go_simp
    try with_reducible rfl
  simp only [Act.put, List.setIfInBounds_toArray, List.set_cons_succ, List.set_cons_zero]
  refine wpAnyH_done (by kernel_rfl) ?_ _
  have h5 := (hS.block _ (blk_lt H.out)).trans H.out
  have c2 := CT.c2 h5
  have fz := frozen_of_row Wnx9 g 2 _ 73 h5
  have hsz := hS.size
  have HS := Lib.hid hS
  have H5 := Lib.hid h5
  clear hS h5 hsz
  go_wp2_with fail
  go_ret2
  refine ⟨rfl, ?_, else_cell HS.out _⟩
  unfold CT
  rw [heap_setCell_same _ _ _ _ _ _ H5.out]
  rfl
open Go.RowKit Go.Proofs.YtpkeofioobmmoaaGreatDoor.ae
end Go.Proofs.YtpkeofioobmmoaaGreatDoor
