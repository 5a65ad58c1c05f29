/-
  Contracts of stamps, counters and sealers. Conditions: numbers fit 64 digits.
-/
import Derived.Test.YtpkeofioobmmoaaDoorK1
import Derived.Test.YtpkeofioobmmoaaDoorAeWrP
import Derived.Deep.QuietTactic
import Derived.BigQuiet
import Derived.Deep.MidRow
namespace Go.Proofs.YtpkeofioobmmoaaDoor
open Go.RowKit Go.Proofs.YtpkeofioobmmoaaDoor.ae
theorem u64nat (n : Nat) (h : n < 18446744073709551616) : IntKind.u64.wrap (n : Int) = n := by
  show IntKind.u64.wrap (n : Int) = n
  unfold IntKind.wrap
  simp [IntKind.bits, IntKind.signed]
  omega
theorem or64 (a b : Nat) (ha : a < 18446744073709551616) (hb : b < 18446744073709551616) : bits .or .u64 (a : Int) (b : Int) = ((Nat.lor a b : Nat) : Int) := by
  have e : bits .or .u64 (a : Int) (b : Int) = IntKind.u64.wrap ((BitVec.ofInt 64 (a : Int) ||| BitVec.ofInt 64 (b : Int)).toNat : Int) := rfl
  rw [e, BitVec.ofInt_natCast, BitVec.ofInt_natCast, BitVec.toNat_or, BitVec.toNat_ofNat, BitVec.toNat_ofNat, Nat.mod_eq_of_lt (by omega), Nat.mod_eq_of_lt (by omega)]
  exact u64nat _ (Nat.or_lt_two_pow (n := 64) ha hb)
theorem and64u (a b : Nat) (ha : a < 18446744073709551616) (hb : b < 18446744073709551616) : bits .and .u64 (a : Int) (b : Int) = ((Nat.land a b : Nat) : Int) := by
  have e : bits .and .u64 (a : Int) (b : Int) = IntKind.u64.wrap ((BitVec.ofInt 64 (a : Int) &&& BitVec.ofInt 64 (b : Int)).toNat : Int) := rfl
  rw [e, BitVec.ofInt_natCast, BitVec.ofInt_natCast, BitVec.toNat_and, BitVec.toNat_ofNat, BitVec.toNat_ofNat, Nat.mod_eq_of_lt (by omega), Nat.mod_eq_of_lt (by omega)]
  exact u64nat _ (Nat.lt_of_le_of_lt Nat.and_le_left ha)
/-- The stamp of an epoch and a count. -/
def stm (e c : Nat) : Nat := 1099511627776 * e + c
theorem lor_stm (e c : Nat) (hc : c < 1099511627776) : Nat.lor (e * 1099511627776) c = stm e c := by
  have h := Nat.two_pow_add_eq_or_of_lt (i := 40) (b := c) (by omega) e
  unfold stm
  rw [Nat.mul_comm e]
  exact h.symm
theorem land_cnt (s : Nat) : Nat.land s 1099511627775 = s % 1099511627776 := Nat.and_two_pow_sub_one_eq_mod s 40
set_option maxRecDepth 100000 in
set_option maxHeartbeats 1000000 in
theorem stampOK (e c : Nat) (he : e ≤ 16777215) (hc : c ≤ 1099511627775) (w : World) : Calls Tryd.prog 12 #[.int .u64 e, .int .u64 c] w fun x w' => x = .returned (.tuple #[.int .u64 (stm e c : Nat), .int .i64 0]) ∧ w = w' := by
  have h1 : ¬ (16777215 : Int) < e := by omega
  have h2 : ¬ (1099511627775 : Int) < c := by omega
  have ho : bits .or .u64 ((e : Int) * 1099511627776) (c : Int) = ((stm e c : Nat) : Int) := by
    have := or64 (e * 1099511627776) c (by omega) (by omega)
    rw [lor_stm e c (by omega)] at this
    rw [← this]; rfl
  have hw : IntKind.u64.wrap ((e : Int) * 1099511627776) = (e : Int) * 1099511627776 := by
    unfold IntKind.wrap; simp [IntKind.bits, IntKind.signed]; omega
  generalize stm e c = s at ho ⊢
  go_enter Tryd.func12, Tryd.ntmps12
  go_wp2
  go_ret2
  exact ⟨rfl, rfl⟩
set_option maxRecDepth 100000 in
set_option maxHeartbeats 1000000 in
theorem stampNo (e c : Nat) (he : e ≤ 18446744073709551615) (hc : c ≤ 18446744073709551615) (h : 16777215 < e ∨ 1099511627775 < c) (w : World) : Calls Tryd.prog 12 #[.int .u64 e, .int .u64 c] w fun x w' => x = .returned (.tuple #[.int .u64 0, .int .i64 5]) ∧ w = w' := by
  by_cases h1 : (16777215 : Int) < e
  · clear h
    go_enter Tryd.func12, Tryd.ntmps12
    go_wp2
    go_ret2
    exact ⟨rfl, rfl⟩
  · have h2 : (1099511627775 : Int) < c := by omega
    clear h
    go_enter Tryd.func12, Tryd.ntmps12
    go_wp2
    go_ret2
    exact ⟨rfl, rfl⟩
set_option maxRecDepth 100000 in
set_option maxHeartbeats 1000000 in
theorem partsC (s : Nat) (hs : s ≤ 18446744073709551615) (w : World) : Calls Tryd.prog 14 #[.int .u64 s] w fun x w' => x = .returned (.tuple #[.int .u64 (s / 1099511627776 : Nat), .int .u64 (s % 1099511627776 : Nat)]) ∧ w = w' := by
  have ha : bits .and .u64 (s : Int) 1099511627775 = ((s % 1099511627776 : Nat) : Int) := by
    have := and64u s 1099511627775 (by omega) (by omega)
    rw [land_cnt] at this
    exact this
  have hd : (s : Int) / 1099511627776 = ((s / 1099511627776 : Nat) : Int) := by omega
  generalize s % 1099511627776 = r at ha ⊢
  generalize s / 1099511627776 = q at hd ⊢
  go_enter Tryd.func14, Tryd.ntmps14
  go_wp2
  go_ret2
  exact ⟨rfl, rfl⟩
/-- A counter in memory. -/
def CTcells (e t : Nat) : Array Value := #[.bool true, .int .u64 e, .int .u64 t]
def CT (w : World) (g e t : Nat) : Prop := w.heap[g]? = some (.cells (CTcells e t) 34 (0, 0))
theorem CT.below {w w' : World} {g e t : Nat} (h : CT w g e t) (hb : Below w.heap.size w w') : CT w' g e t := (hb.block _ (blk_lt h)).trans h
theorem CT.c0 {w : World} {g e t : Nat} (h : CT w g e t) : w.cell? ⟨g, 0, none⟩ = some (.bool true) := by rw [cell_of_row _ _ _ _ _ _ h]; rfl
theorem CT.c1 {w : World} {g e t : Nat} (h : CT w g e t) : w.cell? ⟨g, 1, none⟩ = some (.int .u64 e) := by rw [cell_of_row _ _ _ _ _ _ h]; rfl
theorem CT.c2 {w : World} {g e t : Nat} (h : CT w g e t) : w.cell? ⟨g, 2, none⟩ = some (.int .u64 t) := by rw [cell_of_row _ _ _ _ _ _ h]; rfl
set_option maxRecDepth 100000 in
set_option maxHeartbeats 1000000 in
theorem countOK (e : Nat) (he : e ≤ 16777215) (w : World) : Calls Tryd.prog 15 #[.int .u64 e] w fun x w' => x = .returned (.tuple #[.pointer (some ⟨w.heap.size, 0, none⟩), .int .i64 0]) ∧ CT w' w.heap.size e 0 ∧ Below w.heap.size w w' := by
  have h1 : ¬ (16777215 : Int) < e := by omega
  have HB : Hid (Below w.heap.size w (w.alloc (.cells #[.bool true, .int .u64 e, .int .u64 0] 34))) := (Below.refl _ _).alloc (Nat.le_refl _) _
  have G0 := Lib.hid (heap_alloc_new w (.cells #[.bool true, .int .u64 e, .int .u64 0] 34))
  clear he
  go_enter Tryd.func15, Tryd.ntmps15
  go_wp2
  go_ret2
  exact ⟨rfl, G0.out, HB.out⟩
theorem countNo (e : Nat) (he : 16777215 < e) (w : World) : Calls Tryd.prog 15 #[.int .u64 e] w fun x w' => x = .returned (.tuple #[.pointer none, .int .i64 5]) ∧ w = w' := by
  have h1 : (16777215 : Int) < e := by omega
  go_enter Tryd.func15, Tryd.ntmps15
  go_wp2
  go_ret2
  exact ⟨rfl, rfl⟩
set_option maxRecDepth 100000 in
theorem epochC (g e t : Nat) (w : World) (h : CT w g e t) : Calls Tryd.prog 18 #[.pointer (some ⟨g, 0, none⟩)] w fun x w' => x = .returned (.int .u64 e) ∧ w = w' := by
  have h1 := h.c1
  have H := Lib.hid h
  clear h
  go_enter Tryd.func18, Tryd.ntmps18
  go_wp2
  go_ret
  exact ⟨rfl, rfl⟩
theorem epochNil (w : World) : Calls Tryd.prog 18 #[.pointer none] w fun x w' => x = .returned (.int .u64 0) ∧ w = w' := by
  go_enter Tryd.func18, Tryd.ntmps18
  go_wp2
  go_ret
  exact ⟨rfl, rfl⟩
theorem nextNil (w : World) : Calls Tryd.prog 17 #[.pointer none] w fun x w' => x = .returned (.tuple #[.int .u64 0, .int .i64 6]) ∧ w = w' := by
  go_enter Tryd.func17, Tryd.ntmps17
  go_wp2
  go_ret2
  exact ⟨rfl, rfl⟩
theorem nextZero (g : Nat) (c : Array Value) (t : TypeId) (fr : Nat × Nat) (w : World) (h : w.heap[g]? = some (.cells c t fr)) (h0 : c[0]? = some (.bool false)) : Calls Tryd.prog 17 #[.pointer (some ⟨g, 0, none⟩)] w fun x w' => x = .returned (.tuple #[.int .u64 0, .int .i64 6]) ∧ w = w' := by
  have h1 : w.cell? ⟨g, 0, none⟩ = some (.bool false) := by rw [cell_of_row _ _ _ _ _ _ h]; exact h0
  clear h h0
  go_enter Tryd.func17, Tryd.ntmps17
  go_wp2
  go_ret2
  exact ⟨rfl, rfl⟩
def NextP (w : World) (g e t : Nat) (x : Ending) (w' : World) : Prop :=
  x = .returned (.tuple #[.int .u64 (stm e (t + 1) : Nat), .int .i64 0]) ∧ CT w' g e (t + 1) ∧ Elsewhere g w w'
theorem else_cell {w W : World} {g o : Nat} (hb : Below w.heap.size w W) (v : Value) : Elsewhere g w (W.setCell ⟨g, o, none⟩ v) :=
  ⟨fun k hk hne => by rw [heap_setCell_other _ _ _ _ (fun e => hne (by simpa using e))]; exact hb.block _ hk, fun base a h1 h2 h3 => (h3.trans (hb.mono h2)).setCell (by simpa using h1) _, by
    have := hb.size
    have e : (W.setCell ⟨g, o, none⟩ v).heap.size = W.heap.size := by simp
    omega⟩
set_option maxRecDepth 100000 in
set_option maxHeartbeats 2000000 in
theorem nextC (g e t : Nat) (he : e ≤ 16777215) (ht : t + 1 ≤ 1099511627775) (w : World) (h : CT w g e t) : Calls Tryd.prog 17 #[.pointer (some ⟨g, 0, none⟩)] w (NextP w g e t) := by
  have ST : Hid (∀ W : World, Calls Tryd.prog 12 #[.int .u64 e, .int .u64 ((t : Int) + 1)] W fun x w' => x = .returned (.tuple #[.int .u64 (stm e (t + 1) : Nat), .int .i64 0]) ∧ Below W.heap.size W w') := fun W => (stampOK e (t + 1) he ht W).mono fun _ _ ⟨h, k⟩ => ⟨h, by rw [← k]; exact Below.refl _ _⟩
  have c0 := h.c0
  have c1 := h.c1
  have c2 := h.c2
  have fz := frozen_of_row w g 2 _ 34 h
  have e1 : IntKind.u64.wrap ((t : Int) + 1) = (t : Int) + 1 := by
    have := u64nat (t + 1) (by omega)
    simpa using this
  have p1 : (0 : Int) ≤ (t : Int) + 1 := by omega
  have p2 : (t : Int) + 1 ≤ 1099511627775 := by omega
  have H := Lib.hid h
  have C1 := Lib.hid c1
  have C2 := Lib.hid c2
  have HGL : Hid (g < w.heap.size) := blk_lt h
  have HT := Lib.hid ht
  clear h he ht c1 c2
  go_enter Tryd.func17, Tryd.ntmps17
  go_wp2_with fail
  clear c0
  refine wp_region_held_drew (S := fun W => Below w.heap.size w W) (by kernel_rfl) ((Below.refl _ _).drew) (fun hS => ?_)
  have hb0 : Below w.heap.size w w.drew := (Below.refl _ _).drew
  clear hb0 
  generalize w.drew = Wns at hS  ⊢
  refine' wpAnyH_take (i := 0) ?h1x0n ?hsx0n ?hfx0n ?hrx0n ?hQx0n (Or.inl ⟨?hwx0n, ?hyx0n⟩) hS ?restx0n
  case h1x0n => (simp only [List.getElem?_toArray, List.getElem?_cons_zero]; rfl)
  case hsx0n => kernel_rfl
  case hfx0n => kernel_rfl
  case hrx0n => kernel_rfl
  case hQx0n => exact fun _ _ _ h => h
  case hwx0n => rfl
  case hyx0n =>
    intro W hW
    go_simp
    try with_reducible rfl
  simp only [Act.put, List.setIfInBounds_toArray, List.set_cons_succ, List.set_cons_zero]
  refine' wpAnyH_take (i := 4) ?h1x4n ?hsx4n ?hfx4n ?hrx4n ?hQx4n (Or.inl ⟨?hwx4n, ?hyx4n⟩) hS ?restx4n
  case h1x4n => (simp only [List.getElem?_toArray, List.getElem?_cons_succ, List.getElem?_cons_zero]; rfl)
  case hsx4n => kernel_rfl
  case hfx4n => kernel_rfl
  case hrx4n => kernel_rfl
  case hQx4n => exact fun _ _ _ h => h
  case hwx4n => rfl
  case hyx4n =>
    intro W hW
    go_simp
    try with_reducible rfl
  simp only [Act.put, List.setIfInBounds_toArray, List.set_cons_succ, List.set_cons_zero]
  refine' wpAnyH_take (i := 1) ?h1x1n ?hsx1n ?hfx1n ?hrx1n ?hQx1n (Or.inl ⟨?hwx1n, ?hyx1n⟩) hS ?restx1n
  case h1x1n => (simp only [List.getElem?_toArray, List.getElem?_cons_succ, List.getElem?_cons_zero]; rfl)
  case hsx1n => kernel_rfl
  case hfx1n => kernel_rfl
  case hrx1n => kernel_rfl
  case hQx1n => exact fun _ _ _ h => h
  case hwx1n => rfl
  case hyx1n =>
    intro W hW
    go_simp
    try with_reducible rfl
  simp only [Act.put, List.setIfInBounds_toArray, List.set_cons_succ, List.set_cons_zero]
  refine' wpAnyH_take (i := 5) ?h1x5n ?hsx5n ?hfx5n ?hrx5n ?hQx5n (Or.inl ⟨?hwx5n, ?hyx5n⟩) hS ?restx5n
  case h1x5n => (simp only [List.getElem?_toArray, List.getElem?_cons_succ, List.getElem?_cons_zero]; rfl)
  case hsx5n => kernel_rfl
  case hfx5n => kernel_rfl
  case hrx5n => kernel_rfl
  case hQx5n => exact fun _ _ _ h => h
  case hwx5n => rfl
  case hyx5n =>
    intro W hW
    go_simp
    try with_reducible rfl
  simp only [Act.put, List.setIfInBounds_toArray, List.set_cons_succ, List.set_cons_zero]
  refine' wpAnyH_take (i := 2) ?h1x2n ?hsx2n ?hfx2n ?hrx2n ?hQx2n (Or.inl ⟨?hwx2n, ?hyx2n⟩) hS ?restx2n
  case h1x2n => (simp only [List.getElem?_toArray, List.getElem?_cons_succ, List.getElem?_cons_zero]; rfl)
  case hsx2n => kernel_rfl
  case hfx2n => kernel_rfl
  case hrx2n => kernel_rfl
  case hQx2n => exact fun _ _ _ h => h
  case hwx2n => rfl
  case hyx2n =>
    intro W hW
    go_simp
    try with_reducible rfl
  simp only [Act.put, List.setIfInBounds_toArray, List.set_cons_succ, List.set_cons_zero]
  refine' wpAnyH_take (i := 6) ?h1x6n ?hsx6n ?hfx6n ?hrx6n ?hQx6n (Or.inl ⟨?hwx6n, ?hyx6n⟩) hS ?restx6n
  case h1x6n => (simp only [List.getElem?_toArray, List.getElem?_cons_succ, List.getElem?_cons_zero]; rfl)
  case hsx6n => kernel_rfl
  case hfx6n => kernel_rfl
  case hrx6n => kernel_rfl
  case hQx6n => exact fun _ _ _ h => h
  case hwx6n => rfl
  case hyx6n =>
    intro W hW
    go_simp
    try with_reducible rfl
  simp only [Act.put, List.setIfInBounds_toArray, List.set_cons_succ, List.set_cons_zero]
  refine' wpAnyH_take (i := 3) ?h1x3n ?hsx3n ?hfx3n ?hrx3n ?hQx3n (Or.inl ⟨?hwx3n, ?hyx3n⟩) hS ?restx3n
  case h1x3n => (simp only [List.getElem?_toArray, List.getElem?_cons_succ, List.getElem?_cons_zero]; rfl)
  case hsx3n => kernel_rfl
  case hfx3n => kernel_rfl
  case hrx3n => kernel_rfl
  case hQx3n => exact fun _ _ _ h => h
  case hwx3n => rfl
  case hyx3n =>
    intro W hW
    have k1 := (hW.cell (p := ⟨g, 1, none⟩) HGL.out).trans C1.out
    go_simp
    try with_reducible rfl
  simp only [Act.put, List.setIfInBounds_toArray, List.set_cons_succ, List.set_cons_zero]
  refine' wpAnyH_take (i := 7) ?h1x7n ?hsx7n ?hfx7n ?hrx7n ?hQx7n (Or.inl ⟨?hwx7n, ?hyx7n⟩) hS ?restx7n
  case h1x7n => (simp only [List.getElem?_toArray, List.getElem?_cons_succ, List.getElem?_cons_zero]; rfl)
  case hsx7n => kernel_rfl
  case hfx7n => kernel_rfl
  case hrx7n => kernel_rfl
  case hQx7n => exact fun _ _ _ h => h
  case hwx7n => rfl
  case hyx7n =>
    intro W hW
    have k2 := (hW.cell (p := ⟨g, 2, none⟩) HGL.out).trans C2.out
    go_simp
    try with_reducible rfl
  simp only [Act.put, List.setIfInBounds_toArray, List.set_cons_succ, List.set_cons_zero]
  refine' wpAnyH_take (i := 8) ?h1x8n ?hsx8n ?hfx8n ?hrx8n ?hQx8n (Or.inl ⟨?hwx8n, ?hyx8n⟩) hS ?restx8n
  case h1x8n => (simp only [List.getElem?_toArray, List.getElem?_cons_succ, List.getElem?_cons_zero]; rfl)
  case hsx8n => kernel_rfl
  case hfx8n => kernel_rfl
  case hrx8n => kernel_rfl
  case hQx8n => exact fun _ _ _ h => h
  case hwx8n => rfl
  case hyx8n =>
    intro W hW
    go_simp
    try with_reducible rfl
  simp only [Act.put, List.setIfInBounds_toArray, List.set_cons_succ, List.set_cons_zero]
  refine wpAnyH_ready (rs := [9]) (by kernel_rfl) (by simp) ?_
  refine' (AllReadyH.cons ?hoc9n (fun K hK => ?stc9n) AllReadyH.nil)
  case hoc9n => (simp only [List.getElem?_toArray, List.getElem?_cons_succ, List.getElem?_cons_zero]; rfl)
  go_simp
  refine (ST.out Wns).mono ?_
  rintro e Wnx9 ⟨rfl, hb⟩
  go_wp2_with fail
  refine hK.out _ _ (hS.trans (hb.mono hS.size)) (fun hHeld => ?_)
  clear hK K
  try simp only [Act.put, List.setIfInBounds_toArray, List.set_cons_succ, List.set_cons_zero]
  clear hS
  have hS := hHeld
  clear hHeld
  clear hb
  refine' wpAnyH_take (i := 10) ?h1x10nx9 ?hsx10nx9 ?hfx10nx9 ?hrx10nx9 ?hQx10nx9 (Or.inl ⟨?hwx10nx9, ?hyx10nx9⟩) hS ?restx10nx9
  case h1x10nx9 => (simp only [List.getElem?_toArray, List.getElem?_cons_succ, List.getElem?_cons_zero]; rfl)
  case hsx10nx9 => kernel_rfl
  case hfx10nx9 => kernel_rfl
  case hrx10nx9 => kernel_rfl
  case hQx10nx9 => exact fun _ _ _ h => h
  case hwx10nx9 => rfl
  case hyx10nx9 =>
    intro W hW
    go_simp
    try with_reducible rfl
  simp only [Act.put, List.setIfInBounds_toArray, List.set_cons_succ, List.set_cons_zero]
  refine' wpAnyH_take (i := 11) ?h1x11nx9 ?hsx11nx9 ?hfx11nx9 ?hrx11nx9 ?hQx11nx9 (Or.inl ⟨?hwx11nx9, ?hyx11nx9⟩) hS ?restx11nx9
  case h1x11nx9 => (simp only [List.getElem?_toArray, List.getElem?_cons_succ, List.getElem?_cons_zero]; rfl)
  case hsx11nx9 => kernel_rfl
  case hfx11nx9 => kernel_rfl
  case hrx11nx9 => kernel_rfl
  case hQx11nx9 => exact fun _ _ _ h => h
  case hwx11nx9 => rfl
  case hyx11nx9 =>
    intro W hW
    go_simp
    try with_reducible rfl
  simp only [Act.put, List.setIfInBounds_toArray, List.set_cons_succ, List.set_cons_zero]
  refine' wpAnyH_take (i := 12) ?h1x12nx9 ?hsx12nx9 ?hfx12nx9 ?hrx12nx9 ?hQx12nx9 (Or.inl ⟨?hwx12nx9, ?hyx12nx9⟩) hS ?restx12nx9
  case h1x12nx9 => (simp only [List.getElem?_toArray, List.getElem?_cons_succ, List.getElem?_cons_zero]; rfl)
  case hsx12nx9 => kernel_rfl
  case hfx12nx9 => kernel_rfl
  case hrx12nx9 => kernel_rfl
  case hQx12nx9 => exact fun _ _ _ h => h
  case hwx12nx9 => rfl
  case hyx12nx9 =>
    intro W hW
    go_simp
    try with_reducible rfl
  simp only [Act.put, List.setIfInBounds_toArray, List.set_cons_succ, List.set_cons_zero]
  refine' wpAnyH_take (i := 13) ?h1x13nx9 ?hsx13nx9 ?hfx13nx9 ?hrx13nx9 ?hQx13nx9 (Or.inl ⟨?hwx13nx9, ?hyx13nx9⟩) hS ?restx13nx9
  case h1x13nx9 => (simp only [List.getElem?_toArray, List.getElem?_cons_succ, List.getElem?_cons_zero]; rfl)
  case hsx13nx9 => kernel_rfl
  case hfx13nx9 => kernel_rfl
  case hrx13nx9 => kernel_rfl
  case hQx13nx9 => exact fun _ _ _ h => h
  case hwx13nx9 => rfl
  case hyx13nx9 =>
    intro W hW
    go_simp
    try with_reducible rfl
  simp only [Act.put, List.setIfInBounds_toArray, List.set_cons_succ, List.set_cons_zero]
  refine' wpAnyH_take (i := 14) ?h1x14nx9 ?hsx14nx9 ?hfx14nx9 ?hrx14nx9 ?hQx14nx9 (Or.inl ⟨?hwx14nx9, ?hyx14nx9⟩) hS ?restx14nx9
  case h1x14nx9 => (simp only [List.getElem?_toArray, List.getElem?_cons_succ, List.getElem?_cons_zero]; rfl)
  case hsx14nx9 => kernel_rfl
  case hfx14nx9 => kernel_rfl
  case hrx14nx9 => kernel_rfl
  case hQx14nx9 => exact fun _ _ _ h => h
  case hwx14nx9 => rfl
  case hyx14nx9 =>
    intro W hW
    go_simp
    try with_reducible rfl
  simp only [Act.put, List.setIfInBounds_toArray, List.set_cons_succ, List.set_cons_zero]
  refine wpAnyH_done (by kernel_rfl) ?_ _
  have h5 := (hS.block _ (blk_lt H.out)).trans H.out
  have c2 := CT.c2 h5
  have fz := frozen_of_row Wnx9 g 2 _ 34 h5
  have hsz := hS.size
  have HS := Lib.hid hS
  have H5 := Lib.hid h5
  clear hS h5 hsz
  go_wp2_with fail
  go_ret2
  refine ⟨rfl, ?_, else_cell HS.out _⟩
  unfold CT
  rw [heap_setCell_same _ _ _ _ _ _ H5.out]
  rfl
open Go.RowKit Go.Proofs.YtpkeofioobmmoaaDoor.ae
/-- A sealer in memory. -/
def SLcells (m : List Nat) (n : Nat) (c : Option Addr) : Array Value := (Value.bool true :: ((ncells m).toList ++ [.int .u64 n, .pointer c])).toArray
def SLat (w : World) (g : Nat) (m : List Nat) (n : Nat) (c : Option Addr) : Prop := w.heap[g]? = some (.cells (SLcells m n c) 62 (0, 0))
theorem SLat.below {w w' : World} {g n : Nat} {m : List Nat} {c : Option Addr} (h : SLat w g m n c) (hb : Below w.heap.size w w') : SLat w' g m n c := (hb.block _ (blk_lt h)).trans h
theorem wpList_build_any {ops : Array Oper} {rest : List Oper} {o : Oper} {a : Act} {w : World} {Q : Exit → Act → World → Prop} (hgd : o.guard = none) (t : TypeId) (parts : Array (Nat × Operand)) (ho : o.op = .build t parts)
    (vs : Array (Nat × Value)) (hv : parts.map (fun (i, x) => (i, a.eval x)) = vs) {v : Value} (hr : (Instr.build t vs).run Tryd.prog w = .ok v w) (h : wpList Tryd.prog ops Q rest (a.put o.dst v) w) : wpList Tryd.prog ops Q (o :: rest) a w := by
  refine wpList_plain hgd fun K hK => ?_
  subst hv
  unfold Oper.wp execOp
  simp only [ho, Sem.run_bind, Sem.run_pure]
  rw [hr]
  exact hK _ _ h
theorem built62 : ∀ (m : List Nat) (_ : m.length = 32) (n : Nat) (c : Option Addr), Tryd.prog.built 62 [(0, .bool true), (1, .agg (ncells m)), (2, .int .u64 n), (3, .pointer c)] = some (SLcells m n c)
  | [x0, x1, x2, x3, x4, x5, x6, x7, x8, x9, x10, x11, x12, x13, x14, x15, x16, x17, x18, x19, x20, x21, x22, x23, x24, x25, x26, x27, x28, x29, x30, x31], _, n, c => by kernel_rfl
theorem SLcells_size {m : List Nat} (hm : m.length = 32) (n : Nat) (c : Option Addr) : (SLcells m n c).size = 35 := by simp [SLcells, ncells, hm]
theorem SL_at {w : World} {g n : Nat} {m : List Nat} {c : Option Addr} (h : SLat w g m n c) (hm : m.length = 32) : w.cell? ⟨g, 0, none⟩ = some (.bool true) ∧ w.rangeAt g 1 (ncells m).toList ∧ w.cell? ⟨g, 33, none⟩ = some (.int .u64 n) ∧ w.cell? ⟨g, 34, none⟩ = some (.pointer c) := by
  refine ⟨by rw [cell_of_row _ _ _ _ _ _ h]; rfl, fun j v hv => ?_, ?_, ?_⟩
  · have hj : j < (ncells m).toList.length := by
      rcases Nat.lt_or_ge j (ncells m).toList.length with h4 | h4
      · exact h4
      · rw [List.getElem?_eq_none h4] at hv; cases hv
    rw [cell_of_row _ _ _ _ _ _ h, ← hv]
    simp only [SLcells, List.getElem?_toArray, Nat.add_comm 1 j, List.getElem?_cons_succ]
    rw [List.getElem?_append_left hj]
  · rw [cell_of_row _ _ _ _ _ _ h]
    simp only [SLcells, List.getElem?_toArray]
    rw [show (33 : Nat) = 32 + 1 from rfl, List.getElem?_cons_succ, List.getElem?_append_right (by simp [ncells, hm])]
    simp [ncells, hm]
  · rw [cell_of_row _ _ _ _ _ _ h]
    simp only [SLcells, List.getElem?_toArray]
    rw [show (34 : Nat) = 33 + 1 from rfl, List.getElem?_cons_succ, List.getElem?_append_right (by simp [ncells, hm])]
    simp [ncells, hm]
theorem SL_ne {w : World} {g k n e t : Nat} {m : List Nat} {c : Option Addr} (h : SLat w g m n c) (hm : m.length = 32) (hc : CT w k e t) : g ≠ k := fun e1 => by
  subst e1
  unfold SLat at h
  unfold CT at hc
  have e2 := h.symm.trans hc
  simp only [Option.some.injEq, Obj.cells.injEq] at e2
  have := congrArg Array.size e2.1
  rw [SLcells_size hm] at this
  simp [CTcells] at this
set_option maxRecDepth 100000 in
set_option maxHeartbeats 1000000 in
theorem newSealer (m : List Nat) (hm : ae.Bts 32 m) (n : Nat) (c : Option Addr) (w : World) :
    Calls Tryd.prog 25 #[.agg (ncells m), .int .u64 n, .pointer c] w fun e w' => ∃ g, e = .returned (.pointer (some ⟨g, 0, none⟩)) ∧ w.heap.size ≤ g ∧ SLat w' g m n c ∧ Below w.heap.size w w' := by
  have LM := Lib.hid hm.1
  have G0 := Lib.hid (heap_alloc_new w (.cells (ncells m) 38))
  have BD : Hid (∀ W : World, (Instr.build 62 #[(0, .bool true), (1, .agg (ncells m)), (2, .int .u64 n), (3, .pointer c)]).run Tryd.prog W = .ok (.agg (SLcells m n c)) W) := fun W => run_build W 62 _ _ (built62 m hm.1 n c)
  have SC : Hid (∀ W g, W.heap[g]? = some (.cells (SLcells m n c) 62 (0, 0)) → SLat W g m n c) := fun _ _ h => h
  clear hm
  generalize SLcells m n c = C at BD SC
  go_enter Tryd.func25, Tryd.ntmps25
  go_wp2_with (first
    | (refine wpList_load_row rfl 38 (.tmp 3) rfl w.heap.size rfl 38 (ncells m) (0, 0) _ G0.out Tryd.underlying38 rfl (i23 LM.out) ?_)
    | (refine wpList_build_any rfl 62 #[(0, .const (.bool true)), (1, .tmp 7), (2, .tmp 8), (3, .tmp 9)] rfl #[(0, .bool true), (1, .agg (ncells m)), (2, .int .u64 n), (3, .pointer c)] (by kernel_rfl) (BD.out _) ?_))
  go_ret
  refine ⟨w.heap.size + 1, rfl, by omega, SC.out _ _ (heap_alloc2_new w _ _), ((Below.refl _ _).alloc (Nat.le_refl _) _).alloc (by simp) _⟩
set_option maxRecDepth 100000 in
theorem madeYes (g : Nat) (w : World) (h : w.cell? ⟨g, 0, none⟩ = some (.bool true)) : Calls Tryd.prog 40 #[.pointer (some ⟨g, 0, none⟩)] w fun e w' => e = .returned (.bool true) ∧ w = w' := by
  go_enter Tryd.func40, Tryd.ntmps40
  go_wp2
  go_ret
  exact ⟨rfl, rfl⟩
theorem madeNo (g : Nat) (w : World) (h : w.cell? ⟨g, 0, none⟩ = some (.bool false)) : Calls Tryd.prog 40 #[.pointer (some ⟨g, 0, none⟩)] w fun e w' => e = .returned (.bool false) ∧ w = w' := by
  go_enter Tryd.func40, Tryd.ntmps40
  go_wp2
  go_ret
  exact ⟨rfl, rfl⟩
theorem madeNil (w : World) : Calls Tryd.prog 40 #[.pointer none] w fun e w' => e = .returned (.bool false) ∧ w = w' := by
  go_enter Tryd.func40, Tryd.ntmps40
  go_wp2
  go_ret
  exact ⟨rfl, rfl⟩
def SealP (w : World) (m : List Nat) (n g e t : Nat) (b : List Nat) (x : Ending) (w' : World) : Prop :=
  ∃ q, x = .returned (.tuple #[.int .u64 (stm e (t + 1) : Nat), .slice (some ⟨q, 0, none⟩) 512 512, .int .i64 0]) ∧ w.heap.size ≤ q ∧ w'.heap[q]? = some (.cells (ncells (sealN m n (stm e (t + 1)) b)) 5 (0, 0)) ∧ CT w' g e (t + 1) ∧ Elsewhere g w w'
set_option maxRecDepth 100000 in
set_option maxHeartbeats 4000000 in
theorem sealerSeal (gs g e t n : Nat) (m b : List Nat) (hm : ae.Bts 32 m) (hn : n ≤ 18446744073709551615) (he : e ≤ 16777215) (ht : t + 1 ≤ 1099511627775) (x : Option Addr) (cap : Nat) (w : World) (hsl : SLat w gs m n (some ⟨g, 0, none⟩)) (hct : CT w g e t) (hs : ae.Sees w (.slice x 512 cap) b) (hxg : ∀ o, x ≠ some ⟨g, o, none⟩) (hL : 512 = b.length) (hG : sh.Glob w) (hg2 : 2 ≤ g) :
    Calls Tryd.prog 27 #[.pointer (some ⟨gs, 0, none⟩), .slice x 512 cap] w (SealP w m n g e t b) := by
  have c0 := (SL_at hsl hm.1).1
  have c4 := (SL_at hsl hm.1).2.2.2
  have MY := Lib.hid (madeYes gs w c0)
  have NX := Lib.hid (nextC g e t he ht w hct)
  have hne := SL_ne hsl hm.1 hct
  have SE : Hid (∀ W : World, sh.Glob W → ae.Sees W (.slice x 512 cap) b → Calls Tryd.prog 22 #[.agg (ncells m), .int .u64 n, .int .u64 (stm e (t + 1) : Nat), .slice x 512 cap] W (SecP W 512 (sealN m n (stm e (t + 1)) b))) := fun W hg hv => sealC m b hm n (stm e (t + 1)) hn x cap W hv hL hg
  have SL := Lib.hid hsl
  have LM := Lib.hid hm.1
  have HNE := Lib.hid hne
  have HGL := Lib.hid (blk_lt hct)
  have KEEP : Hid (∀ W : World, Elsewhere g w W → SLat W gs m n (some ⟨g, 0, none⟩) ∧ ae.Sees W (.slice x 512 cap) b ∧ sh.Glob W) := fun W h => by
    refine ⟨(h.1 _ (blk_lt hsl) hne).trans hsl, ?_, hG.below (h.2.1 2 w hg2 hG.lt (Below.refl _ _)) (Nat.le_refl _)⟩
    obtain ⟨bb, oo, rfl, h1, h2, h3, h4⟩ := hs.cells (fun e => by rw [e] at hL; simp at hL)
    refine ⟨hs.1, .inr (.inr ⟨bb, oo, cap, by rw [← hL], fun e => by rw [e] at hL; simp at hL, by omega, h3, fun i hi => ?_⟩)⟩
    have := h4 i hi
    have hlt := World.block_lt_of_cell? w _ this
    rw [World.cell?_of_block (a := ⟨bb, oo + i, none⟩) (h.1 bb hlt (fun e => hxg oo (by rw [e]))), this]
  have HNP : Hid (∀ x w', NextP w g e t x w' → x = .returned (.tuple #[.int .u64 (stm e (t + 1) : Nat), .int .i64 0]) ∧ CT w' g e (t + 1) ∧ Elsewhere g w w') := fun _ _ h => h
  clear hm hn he ht hsl hct hs hL hG hne hxg hg2 c0
  obtain ⟨J, hJ⟩ : ∃ J, J = sealN m n (stm e (t + 1)) b := ⟨_, rfl⟩
  have HJ : Hid (sealN m n (stm e (t + 1)) b = J) := hJ.symm
  rw [← hJ] at SE
  clear hJ
  obtain ⟨sv, hsv⟩ : ∃ sv, sv = stm e (t + 1) := ⟨_, rfl⟩
  have HSV := Lib.hid hsv
  have PO : Hid (∀ (x : Ending) (w' : World) (q : Nat), x = .returned (.tuple #[.int .u64 sv, .slice (some ⟨q, 0, none⟩) 512 512, .int .i64 0]) → w.heap.size ≤ q → w'.heap[q]? = some (.cells (ncells J) 5 (0, 0)) → CT w' g e (t + 1) → Elsewhere g w w' → SealP w m n g e t b x w') := fun x w' q h1 h2 h3 h4 h5 => ⟨q, by rw [← hsv]; exact h1, h2, by rw [HJ.out]; exact h3, h4, h5⟩
  rw [← hsv] at SE HNP
  clear hsv
  go_enter Tryd.func27, Tryd.ntmps27
  go_wp2_with fail
  refine MY.out.mono ?_
  rintro x1 w1 ⟨rfl, rfl⟩
  go_wp2_with fail
  refine NX.out.mono ?_
  rintro x2 w2 hnp
  obtain ⟨rfl, hct2, hel⟩ := HNP.out _ _ hnp
  obtain ⟨k1, k2, k3⟩ := KEEP.out _ hel
  have SL := Lib.hid k1
  have SS := Lib.hid k2
  have GG := Lib.hid k3
  have C2 := Lib.hid hct2
  have EL := Lib.hid hel
  clear hct2 hel k1 k2 k3 hnp KEEP HNP MY NX c4
  go_wp2_with fail
  refine wp_region_held_drew (S := fun W => Below w2.heap.size w2 W) (by kernel_rfl) ((Below.refl _ _).drew) (fun hS => ?_)
  have hb0 : Below w2.heap.size w2 w2.drew := (Below.refl _ _).drew
  clear hb0 
  generalize w2.drew = Wss at hS  ⊢
  refine' wpAnyH_take (i := 0) ?h1x0s ?hsx0s ?hfx0s ?hrx0s ?hQx0s (Or.inl ⟨?hwx0s, ?hyx0s⟩) hS ?restx0s
  case h1x0s => (simp only [List.getElem?_toArray, List.getElem?_cons_zero]; rfl)
  case hsx0s => kernel_rfl
  case hfx0s => kernel_rfl
  case hrx0s => kernel_rfl
  case hQx0s => exact fun _ _ _ h => h
  case hwx0s => rfl
  case hyx0s =>
    intro W hW
    go_simp
    try with_reducible rfl
  simp only [Act.put, List.setIfInBounds_toArray, List.set_cons_succ, List.set_cons_zero]
  refine' wpAnyH_take (i := 4) ?h1x4s ?hsx4s ?hfx4s ?hrx4s ?hQx4s (Or.inl ⟨?hwx4s, ?hyx4s⟩) hS ?restx4s
  case h1x4s => (simp only [List.getElem?_toArray, List.getElem?_cons_succ, List.getElem?_cons_zero]; rfl)
  case hsx4s => kernel_rfl
  case hfx4s => kernel_rfl
  case hrx4s => kernel_rfl
  case hQx4s => exact fun _ _ _ h => h
  case hwx4s => rfl
  case hyx4s =>
    intro W hW
    go_simp
    try with_reducible rfl
  simp only [Act.put, List.setIfInBounds_toArray, List.set_cons_succ, List.set_cons_zero]
  refine' wpAnyH_take (i := 8) ?h1x8s ?hsx8s ?hfx8s ?hrx8s ?hQx8s (Or.inl ⟨?hwx8s, ?hyx8s⟩) hS ?restx8s
  case h1x8s => (simp only [List.getElem?_toArray, List.getElem?_cons_succ, List.getElem?_cons_zero]; rfl)
  case hsx8s => kernel_rfl
  case hfx8s => kernel_rfl
  case hrx8s => kernel_rfl
  case hQx8s => exact fun _ _ _ h => h
  case hwx8s => rfl
  case hyx8s =>
    intro W hW
    go_simp
    try with_reducible rfl
  simp only [Act.put, List.setIfInBounds_toArray, List.set_cons_succ, List.set_cons_zero]
  refine' wpAnyH_take (i := 9) ?h1x9s ?hsx9s ?hfx9s ?hrx9s ?hQx9s (Or.inl ⟨?hwx9s, ?hyx9s⟩) hS ?restx9s
  case h1x9s => (simp only [List.getElem?_toArray, List.getElem?_cons_succ, List.getElem?_cons_zero]; rfl)
  case hsx9s => kernel_rfl
  case hfx9s => kernel_rfl
  case hrx9s => kernel_rfl
  case hQx9s => exact fun _ _ _ h => h
  case hwx9s => rfl
  case hyx9s =>
    intro W hW
    go_simp
    try with_reducible rfl
  simp only [Act.put, List.setIfInBounds_toArray, List.set_cons_succ, List.set_cons_zero]
  refine' wpAnyH_take (i := 1) ?h1x1s ?hsx1s ?hfx1s ?hrx1s ?hQx1s (Or.inl ⟨?hwx1s, ?hyx1s⟩) hS ?restx1s
  case h1x1s => (simp only [List.getElem?_toArray, List.getElem?_cons_succ, List.getElem?_cons_zero]; rfl)
  case hsx1s => kernel_rfl
  case hfx1s => kernel_rfl
  case hrx1s => kernel_rfl
  case hQx1s => exact fun _ _ _ h => h
  case hwx1s => rfl
  case hyx1s =>
    intro W hW
    go_simp
    try with_reducible rfl
  simp only [Act.put, List.setIfInBounds_toArray, List.set_cons_succ, List.set_cons_zero]
  refine' wpAnyH_take (i := 5) ?h1x5s ?hsx5s ?hfx5s ?hrx5s ?hQx5s (Or.inl ⟨?hwx5s, ?hyx5s⟩) hS ?restx5s
  case h1x5s => (simp only [List.getElem?_toArray, List.getElem?_cons_succ, List.getElem?_cons_zero]; rfl)
  case hsx5s => kernel_rfl
  case hfx5s => kernel_rfl
  case hrx5s => kernel_rfl
  case hQx5s => exact fun _ _ _ h => h
  case hwx5s => rfl
  case hyx5s =>
    intro W hW
    go_simp
    try with_reducible rfl
  simp only [Act.put, List.setIfInBounds_toArray, List.set_cons_succ, List.set_cons_zero]
  refine' wpAnyH_take (i := 2) ?h1x2s ?hsx2s ?hfx2s ?hrx2s ?hQx2s (Or.inl ⟨?hwx2s, ?hyx2s⟩) hS ?restx2s
  case h1x2s => (simp only [List.getElem?_toArray, List.getElem?_cons_succ, List.getElem?_cons_zero]; rfl)
  case hsx2s => kernel_rfl
  case hfx2s => kernel_rfl
  case hrx2s => kernel_rfl
  case hQx2s => exact fun _ _ _ h => h
  case hwx2s => rfl
  case hyx2s =>
    intro W hW
    go_simp
    try with_reducible rfl
  simp only [Act.put, List.setIfInBounds_toArray, List.set_cons_succ, List.set_cons_zero]
  refine' wpAnyH_take (i := 6) ?h1x6s ?hsx6s ?hfx6s ?hrx6s ?hQx6s (Or.inl ⟨?hwx6s, ?hyx6s⟩) hS ?restx6s
  case h1x6s => (simp only [List.getElem?_toArray, List.getElem?_cons_succ, List.getElem?_cons_zero]; rfl)
  case hsx6s => kernel_rfl
  case hfx6s => kernel_rfl
  case hrx6s => kernel_rfl
  case hQx6s => exact fun _ _ _ h => h
  case hwx6s => rfl
  case hyx6s =>
    intro W hW
    go_simp
    try with_reducible rfl
  simp only [Act.put, List.setIfInBounds_toArray, List.set_cons_succ, List.set_cons_zero]
  refine' wpAnyH_take (i := 3) ?h1x3s ?hsx3s ?hfx3s ?hrx3s ?hQx3s (yieldsIf_load_at ?hwx3s 38 (.tmp 30) ?hopx3s gs 1 rfl (ncells m) _ (fun W hW => (((SL_at ((hW.block _ (blk_lt SL.out)).trans SL.out) LM.out).2.1))) Tryd.underlying38 rfl ?hix3s) hS ?restx3s
  case h1x3s => (simp only [List.getElem?_toArray, List.getElem?_cons_succ, List.getElem?_cons_zero]; rfl)
  case hopx3s => rfl
  case hsx3s => kernel_rfl
  case hfx3s => kernel_rfl
  case hrx3s => kernel_rfl
  case hQx3s => exact fun _ _ _ h => h
  case hwx3s => rfl
  case hix3s => exact (i23 LM.out)
  simp only [Act.put, List.setIfInBounds_toArray, List.set_cons_succ, List.set_cons_zero]
  refine' wpAnyH_take (i := 7) ?h1x7s ?hsx7s ?hfx7s ?hrx7s ?hQx7s (Or.inl ⟨?hwx7s, ?hyx7s⟩) hS ?restx7s
  case h1x7s => (simp only [List.getElem?_toArray, List.getElem?_cons_succ, List.getElem?_cons_zero]; rfl)
  case hsx7s => kernel_rfl
  case hfx7s => kernel_rfl
  case hrx7s => kernel_rfl
  case hQx7s => exact fun _ _ _ h => h
  case hwx7s => rfl
  case hyx7s =>
    intro W hW
    have k1 := (SL_at ((hW.block _ (blk_lt SL.out)).trans SL.out) LM.out).2.2.1
    go_simp
    try with_reducible rfl
  simp only [Act.put, List.setIfInBounds_toArray, List.set_cons_succ, List.set_cons_zero]
  refine wpAnyH_ready (rs := [10]) (by kernel_rfl) (by simp) ?_
  refine' (AllReadyH.cons ?hoc10s (fun K hK => ?stc10s) AllReadyH.nil)
  case hoc10s => (simp only [List.getElem?_toArray, List.getElem?_cons_succ, List.getElem?_cons_zero]; rfl)
  go_simp
  refine (SE.out Wss (GG.out.below hS GG.out.lt) (SS.out.below hS)).mono ?_
  rintro e Wsx10 ⟨q, rfl, hq, hr, hb⟩
  have RQ := Lib.hid hr
  have HQ := Lib.hid hq
  have HQ0 := Lib.hid hS.size
  clear hq hr
  go_wp2_with fail
  refine hK.out _ _ (hS.trans (hb.mono hS.size)) (fun hHeld => ?_)
  clear hK K
  try simp only [Act.put, List.setIfInBounds_toArray, List.set_cons_succ, List.set_cons_zero]
  clear hS
  have hS := hHeld
  clear hHeld
  clear hb
  refine' wpAnyH_take (i := 11) ?h1x11sx10 ?hsx11sx10 ?hfx11sx10 ?hrx11sx10 ?hQx11sx10 (Or.inl ⟨?hwx11sx10, ?hyx11sx10⟩) hS ?restx11sx10
  case h1x11sx10 => (simp only [List.getElem?_toArray, List.getElem?_cons_succ, List.getElem?_cons_zero]; rfl)
  case hsx11sx10 => kernel_rfl
  case hfx11sx10 => kernel_rfl
  case hrx11sx10 => kernel_rfl
  case hQx11sx10 => exact fun _ _ _ h => h
  case hwx11sx10 => rfl
  case hyx11sx10 =>
    intro W hW
    go_simp
    try with_reducible rfl
  simp only [Act.put, List.setIfInBounds_toArray, List.set_cons_succ, List.set_cons_zero]
  refine' wpAnyH_take (i := 12) ?h1x12sx10 ?hsx12sx10 ?hfx12sx10 ?hrx12sx10 ?hQx12sx10 (Or.inl ⟨?hwx12sx10, ?hyx12sx10⟩) hS ?restx12sx10
  case h1x12sx10 => (simp only [List.getElem?_toArray, List.getElem?_cons_succ, List.getElem?_cons_zero]; rfl)
  case hsx12sx10 => kernel_rfl
  case hfx12sx10 => kernel_rfl
  case hrx12sx10 => kernel_rfl
  case hQx12sx10 => exact fun _ _ _ h => h
  case hwx12sx10 => rfl
  case hyx12sx10 =>
    intro W hW
    go_simp
    try with_reducible rfl
  simp only [Act.put, List.setIfInBounds_toArray, List.set_cons_succ, List.set_cons_zero]
  refine' wpAnyH_take (i := 13) ?h1x13sx10 ?hsx13sx10 ?hfx13sx10 ?hrx13sx10 ?hQx13sx10 (Or.inl ⟨?hwx13sx10, ?hyx13sx10⟩) hS ?restx13sx10
  case h1x13sx10 => (simp only [List.getElem?_toArray, List.getElem?_cons_succ, List.getElem?_cons_zero]; rfl)
  case hsx13sx10 => kernel_rfl
  case hfx13sx10 => kernel_rfl
  case hrx13sx10 => kernel_rfl
  case hQx13sx10 => exact fun _ _ _ h => h
  case hwx13sx10 => rfl
  case hyx13sx10 =>
    intro W hW
    go_simp
    try with_reducible rfl
  simp only [Act.put, List.setIfInBounds_toArray, List.set_cons_succ, List.set_cons_zero]
  refine' wpAnyH_take (i := 14) ?h1x14sx10 ?hsx14sx10 ?hfx14sx10 ?hrx14sx10 ?hQx14sx10 (Or.inl ⟨?hwx14sx10, ?hyx14sx10⟩) hS ?restx14sx10
  case h1x14sx10 => (simp only [List.getElem?_toArray, List.getElem?_cons_succ, List.getElem?_cons_zero]; rfl)
  case hsx14sx10 => kernel_rfl
  case hfx14sx10 => kernel_rfl
  case hrx14sx10 => kernel_rfl
  case hQx14sx10 => exact fun _ _ _ h => h
  case hwx14sx10 => rfl
  case hyx14sx10 =>
    intro W hW
    go_simp
    try with_reducible rfl
  simp only [Act.put, List.setIfInBounds_toArray, List.set_cons_succ, List.set_cons_zero]
  refine' wpAnyH_take (i := 15) ?h1x15sx10 ?hsx15sx10 ?hfx15sx10 ?hrx15sx10 ?hQx15sx10 (Or.inl ⟨?hwx15sx10, ?hyx15sx10⟩) hS ?restx15sx10
  case h1x15sx10 => (simp only [List.getElem?_toArray, List.getElem?_cons_succ, List.getElem?_cons_zero]; rfl)
  case hsx15sx10 => kernel_rfl
  case hfx15sx10 => kernel_rfl
  case hrx15sx10 => kernel_rfl
  case hQx15sx10 => exact fun _ _ _ h => h
  case hwx15sx10 => rfl
  case hyx15sx10 =>
    intro W hW
    go_simp
    try with_reducible rfl
  simp only [Act.put, List.setIfInBounds_toArray, List.set_cons_succ, List.set_cons_zero]
  refine wpAnyH_done (by kernel_rfl) ?_ _
  have C3 := Lib.hid (C2.out.below hS)
  have EL2 : Hid (Elsewhere g w Wsx10) := EL.out.trans EL.out.2.2 (Elsewhere.of_below hS)
  have Q3 := Lib.hid (Nat.le_trans EL.out.2.2 (Nat.le_trans HQ0.out HQ.out))
  clear hS
  go_wp2_with fail
  go_ret3
  exact PO.out _ _ q rfl Q3.out RQ.out C3.out EL2.out
open Go.RowKit Go.Proofs.YtpkeofioobmmoaaDoor.ae
set_option maxRecDepth 100000 in
set_option maxHeartbeats 1000000 in
theorem sealNoForm (gs : Nat) (x : Option Addr) (L cap : Nat) (hL : L ≠ 512) (w : World) (h : w.cell? ⟨gs, 0, none⟩ = some (.bool true)) : Calls Tryd.prog 27 #[.pointer (some ⟨gs, 0, none⟩), .slice x L cap] w fun e w' => e = .returned (.tuple #[.int .u64 0, .slice none 0 0, .int .i64 3]) ∧ w = w' := by
  have MY := Lib.hid (madeYes gs w h)
  have hl : ((L : Int) != 512) = true := by simp; omega
  clear h hL
  go_enter Tryd.func27, Tryd.ntmps27
  go_wp2_with fail
  refine MY.out.mono ?_
  rintro e w1 ⟨rfl, rfl⟩
  go_wp2_with fail
  go_ret3
  exact ⟨rfl, rfl⟩
set_option maxRecDepth 100000 in
set_option maxHeartbeats 1000000 in
theorem sealNil (v : Value) (w : World) : Calls Tryd.prog 27 #[.pointer none, v] w fun e w' => e = .returned (.tuple #[.int .u64 0, .slice none 0 0, .int .i64 6]) ∧ w = w' := by
  go_enter Tryd.func27, Tryd.ntmps27
  go_wp2_with fail
  refine (madeNil _).mono ?_
  rintro e w1 ⟨rfl, rfl⟩
  go_wp2_with fail
  go_ret3
  exact ⟨rfl, rfl⟩
set_option maxRecDepth 100000 in
set_option maxHeartbeats 1000000 in
theorem openZero (gs : Nat) (s : Int) (v : Value) (w : World) (h : w.cell? ⟨gs, 0, none⟩ = some (.bool false)) : Calls Tryd.prog 28 #[.pointer (some ⟨gs, 0, none⟩), .int .u64 s, v] w fun e w' => e = .returned (.tuple #[.slice none 0 0, .int .i64 6]) ∧ w = w' := by
  have MY := Lib.hid (madeNo gs w h)
  clear h
  go_enter Tryd.func28, Tryd.ntmps28
  go_wp2_with fail
  refine MY.out.mono ?_
  rintro e w1 ⟨rfl, rfl⟩
  go_wp2_with fail
  go_ret2
  exact ⟨rfl, rfl⟩
set_option maxRecDepth 100000 in
set_option maxHeartbeats 1000000 in
theorem sealNoCounter (gs n : Nat) (m : List Nat) (hm : ae.Bts 32 m) (x : Option Addr) (cap : Nat) (w : World) (hsl : SLat w gs m n none) : Calls Tryd.prog 27 #[.pointer (some ⟨gs, 0, none⟩), .slice x 512 cap] w fun e w' => e = .returned (.tuple #[.int .u64 0, .slice none 0 0, .int .i64 6]) ∧ w = w' := by
  have c4 := (SL_at hsl hm.1).2.2.2
  have MY := Lib.hid (madeYes gs w (SL_at hsl hm.1).1)
  clear hsl hm
  go_enter Tryd.func27, Tryd.ntmps27
  go_wp2_with fail
  refine MY.out.mono ?_
  rintro e w1 ⟨rfl, rfl⟩
  go_wp2_with fail
  refine (nextNil _).mono ?_
  rintro e w1 ⟨rfl, rfl⟩
  go_wp2_with fail
  go_ret3
  exact ⟨rfl, rfl⟩
set_option maxRecDepth 100000 in
set_option maxHeartbeats 4000000 in
theorem sealerOpen (gs n s : Nat) (m b : List Nat) (c : Option Addr) (hm : ae.Bts 32 m) (hn : n ≤ 18446744073709551615) (x : Option Addr) (cap : Nat) (w : World) (hsl : SLat w gs m n c) (hs : ae.Sees w (.slice x 512 cap) b) (hL : 512 = b.length) (hG : sh.Glob w) :
    Calls Tryd.prog 28 #[.pointer (some ⟨gs, 0, none⟩), .int .u64 s, .slice x 512 cap] w (SecP w 512 (openN m n s b)) := by
  have MY := Lib.hid (madeYes gs w (SL_at hsl hm.1).1)
  have SE : Hid (∀ W : World, sh.Glob W → ae.Sees W (.slice x 512 cap) b → Calls Tryd.prog 24 #[.agg (ncells m), .int .u64 n, .int .u64 s, .slice x 512 cap] W (SecP W 512 (openN m n s b))) := fun W hg hv => openC m b hm n s hn x cap W hv hL hg
  have SL := Lib.hid hsl
  have LM := Lib.hid hm.1
  have SS := Lib.hid hs
  have GG := Lib.hid hG
  clear hm hn hsl hs hL hG
  generalize openN m n s b = J at SE ⊢
  go_enter Tryd.func28, Tryd.ntmps28
  go_wp2_with fail
  refine MY.out.mono ?_
  rintro x1 w1 ⟨rfl, rfl⟩
  go_wp2_with fail
  refine wp_region_held_drew (S := fun W => Below w.heap.size w W) (by kernel_rfl) ((Below.refl _ _).drew) (fun hS => ?_)
  have hb0 : Below w.heap.size w w.drew := (Below.refl _ _).drew
  clear hb0 
  generalize w.drew = Wos at hS  ⊢
  refine' wpAnyH_take (i := 0) ?h1x0o ?hsx0o ?hfx0o ?hrx0o ?hQx0o (Or.inl ⟨?hwx0o, ?hyx0o⟩) hS ?restx0o
  case h1x0o => (simp only [List.getElem?_toArray, List.getElem?_cons_zero]; rfl)
  case hsx0o => kernel_rfl
  case hfx0o => kernel_rfl
  case hrx0o => kernel_rfl
  case hQx0o => exact fun _ _ _ h => h
  case hwx0o => rfl
  case hyx0o =>
    intro W hW
    go_simp
    try with_reducible rfl
  simp only [Act.put, List.setIfInBounds_toArray, List.set_cons_succ, List.set_cons_zero]
  refine' wpAnyH_take (i := 4) ?h1x4o ?hsx4o ?hfx4o ?hrx4o ?hQx4o (Or.inl ⟨?hwx4o, ?hyx4o⟩) hS ?restx4o
  case h1x4o => (simp only [List.getElem?_toArray, List.getElem?_cons_succ, List.getElem?_cons_zero]; rfl)
  case hsx4o => kernel_rfl
  case hfx4o => kernel_rfl
  case hrx4o => kernel_rfl
  case hQx4o => exact fun _ _ _ h => h
  case hwx4o => rfl
  case hyx4o =>
    intro W hW
    go_simp
    try with_reducible rfl
  simp only [Act.put, List.setIfInBounds_toArray, List.set_cons_succ, List.set_cons_zero]
  refine' wpAnyH_take (i := 8) ?h1x8o ?hsx8o ?hfx8o ?hrx8o ?hQx8o (Or.inl ⟨?hwx8o, ?hyx8o⟩) hS ?restx8o
  case h1x8o => (simp only [List.getElem?_toArray, List.getElem?_cons_succ, List.getElem?_cons_zero]; rfl)
  case hsx8o => kernel_rfl
  case hfx8o => kernel_rfl
  case hrx8o => kernel_rfl
  case hQx8o => exact fun _ _ _ h => h
  case hwx8o => rfl
  case hyx8o =>
    intro W hW
    go_simp
    try with_reducible rfl
  simp only [Act.put, List.setIfInBounds_toArray, List.set_cons_succ, List.set_cons_zero]
  refine' wpAnyH_take (i := 9) ?h1x9o ?hsx9o ?hfx9o ?hrx9o ?hQx9o (Or.inl ⟨?hwx9o, ?hyx9o⟩) hS ?restx9o
  case h1x9o => (simp only [List.getElem?_toArray, List.getElem?_cons_succ, List.getElem?_cons_zero]; rfl)
  case hsx9o => kernel_rfl
  case hfx9o => kernel_rfl
  case hrx9o => kernel_rfl
  case hQx9o => exact fun _ _ _ h => h
  case hwx9o => rfl
  case hyx9o =>
    intro W hW
    go_simp
    try with_reducible rfl
  simp only [Act.put, List.setIfInBounds_toArray, List.set_cons_succ, List.set_cons_zero]
  refine' wpAnyH_take (i := 1) ?h1x1o ?hsx1o ?hfx1o ?hrx1o ?hQx1o (Or.inl ⟨?hwx1o, ?hyx1o⟩) hS ?restx1o
  case h1x1o => (simp only [List.getElem?_toArray, List.getElem?_cons_succ, List.getElem?_cons_zero]; rfl)
  case hsx1o => kernel_rfl
  case hfx1o => kernel_rfl
  case hrx1o => kernel_rfl
  case hQx1o => exact fun _ _ _ h => h
  case hwx1o => rfl
  case hyx1o =>
    intro W hW
    go_simp
    try with_reducible rfl
  simp only [Act.put, List.setIfInBounds_toArray, List.set_cons_succ, List.set_cons_zero]
  refine' wpAnyH_take (i := 5) ?h1x5o ?hsx5o ?hfx5o ?hrx5o ?hQx5o (Or.inl ⟨?hwx5o, ?hyx5o⟩) hS ?restx5o
  case h1x5o => (simp only [List.getElem?_toArray, List.getElem?_cons_succ, List.getElem?_cons_zero]; rfl)
  case hsx5o => kernel_rfl
  case hfx5o => kernel_rfl
  case hrx5o => kernel_rfl
  case hQx5o => exact fun _ _ _ h => h
  case hwx5o => rfl
  case hyx5o =>
    intro W hW
    go_simp
    try with_reducible rfl
  simp only [Act.put, List.setIfInBounds_toArray, List.set_cons_succ, List.set_cons_zero]
  refine' wpAnyH_take (i := 2) ?h1x2o ?hsx2o ?hfx2o ?hrx2o ?hQx2o (Or.inl ⟨?hwx2o, ?hyx2o⟩) hS ?restx2o
  case h1x2o => (simp only [List.getElem?_toArray, List.getElem?_cons_succ, List.getElem?_cons_zero]; rfl)
  case hsx2o => kernel_rfl
  case hfx2o => kernel_rfl
  case hrx2o => kernel_rfl
  case hQx2o => exact fun _ _ _ h => h
  case hwx2o => rfl
  case hyx2o =>
    intro W hW
    go_simp
    try with_reducible rfl
  simp only [Act.put, List.setIfInBounds_toArray, List.set_cons_succ, List.set_cons_zero]
  refine' wpAnyH_take (i := 6) ?h1x6o ?hsx6o ?hfx6o ?hrx6o ?hQx6o (Or.inl ⟨?hwx6o, ?hyx6o⟩) hS ?restx6o
  case h1x6o => (simp only [List.getElem?_toArray, List.getElem?_cons_succ, List.getElem?_cons_zero]; rfl)
  case hsx6o => kernel_rfl
  case hfx6o => kernel_rfl
  case hrx6o => kernel_rfl
  case hQx6o => exact fun _ _ _ h => h
  case hwx6o => rfl
  case hyx6o =>
    intro W hW
    go_simp
    try with_reducible rfl
  simp only [Act.put, List.setIfInBounds_toArray, List.set_cons_succ, List.set_cons_zero]
  refine' wpAnyH_take (i := 3) ?h1x3o ?hsx3o ?hfx3o ?hrx3o ?hQx3o (yieldsIf_load_at ?hwx3o 38 (.tmp 13) ?hopx3o gs 1 rfl (ncells m) _ (fun W hW => (((SL_at ((hW.block _ (blk_lt SL.out)).trans SL.out) LM.out).2.1))) Tryd.underlying38 rfl ?hix3o) hS ?restx3o
  case h1x3o => (simp only [List.getElem?_toArray, List.getElem?_cons_succ, List.getElem?_cons_zero]; rfl)
  case hopx3o => rfl
  case hsx3o => kernel_rfl
  case hfx3o => kernel_rfl
  case hrx3o => kernel_rfl
  case hQx3o => exact fun _ _ _ h => h
  case hwx3o => rfl
  case hix3o => exact (i23 LM.out)
  simp only [Act.put, List.setIfInBounds_toArray, List.set_cons_succ, List.set_cons_zero]
  refine' wpAnyH_take (i := 7) ?h1x7o ?hsx7o ?hfx7o ?hrx7o ?hQx7o (Or.inl ⟨?hwx7o, ?hyx7o⟩) hS ?restx7o
  case h1x7o => (simp only [List.getElem?_toArray, List.getElem?_cons_succ, List.getElem?_cons_zero]; rfl)
  case hsx7o => kernel_rfl
  case hfx7o => kernel_rfl
  case hrx7o => kernel_rfl
  case hQx7o => exact fun _ _ _ h => h
  case hwx7o => rfl
  case hyx7o =>
    intro W hW
    have k1 := (SL_at ((hW.block _ (blk_lt SL.out)).trans SL.out) LM.out).2.2.1
    go_simp
    try with_reducible rfl
  simp only [Act.put, List.setIfInBounds_toArray, List.set_cons_succ, List.set_cons_zero]
  refine wpAnyH_ready (rs := [10]) (by kernel_rfl) (by simp) ?_
  refine' (AllReadyH.cons ?hoc10o (fun K hK => ?stc10o) AllReadyH.nil)
  case hoc10o => (simp only [List.getElem?_toArray, List.getElem?_cons_succ, List.getElem?_cons_zero]; rfl)
  go_simp
  refine (SE.out Wos (GG.out.below hS GG.out.lt) (SS.out.below hS)).mono ?_
  rintro e Wox10 ⟨q, rfl, hq, hr, hb⟩
  have RQ := Lib.hid hr
  have HQ := Lib.hid hq
  have HQ0 := Lib.hid hS.size
  clear hq hr
  go_wp2_with fail
  refine hK.out _ _ (hS.trans (hb.mono hS.size)) (fun hHeld => ?_)
  clear hK K
  try simp only [Act.put, List.setIfInBounds_toArray, List.set_cons_succ, List.set_cons_zero]
  clear hS
  have hS := hHeld
  clear hHeld
  clear hb
  refine' wpAnyH_take (i := 11) ?h1x11ox10 ?hsx11ox10 ?hfx11ox10 ?hrx11ox10 ?hQx11ox10 (Or.inl ⟨?hwx11ox10, ?hyx11ox10⟩) hS ?restx11ox10
  case h1x11ox10 => (simp only [List.getElem?_toArray, List.getElem?_cons_succ, List.getElem?_cons_zero]; rfl)
  case hsx11ox10 => kernel_rfl
  case hfx11ox10 => kernel_rfl
  case hrx11ox10 => kernel_rfl
  case hQx11ox10 => exact fun _ _ _ h => h
  case hwx11ox10 => rfl
  case hyx11ox10 =>
    intro W hW
    go_simp
    try with_reducible rfl
  simp only [Act.put, List.setIfInBounds_toArray, List.set_cons_succ, List.set_cons_zero]
  refine' wpAnyH_take (i := 12) ?h1x12ox10 ?hsx12ox10 ?hfx12ox10 ?hrx12ox10 ?hQx12ox10 (Or.inl ⟨?hwx12ox10, ?hyx12ox10⟩) hS ?restx12ox10
  case h1x12ox10 => (simp only [List.getElem?_toArray, List.getElem?_cons_succ, List.getElem?_cons_zero]; rfl)
  case hsx12ox10 => kernel_rfl
  case hfx12ox10 => kernel_rfl
  case hrx12ox10 => kernel_rfl
  case hQx12ox10 => exact fun _ _ _ h => h
  case hwx12ox10 => rfl
  case hyx12ox10 =>
    intro W hW
    go_simp
    try with_reducible rfl
  simp only [Act.put, List.setIfInBounds_toArray, List.set_cons_succ, List.set_cons_zero]
  refine' wpAnyH_take (i := 13) ?h1x13ox10 ?hsx13ox10 ?hfx13ox10 ?hrx13ox10 ?hQx13ox10 (Or.inl ⟨?hwx13ox10, ?hyx13ox10⟩) hS ?restx13ox10
  case h1x13ox10 => (simp only [List.getElem?_toArray, List.getElem?_cons_succ, List.getElem?_cons_zero]; rfl)
  case hsx13ox10 => kernel_rfl
  case hfx13ox10 => kernel_rfl
  case hrx13ox10 => kernel_rfl
  case hQx13ox10 => exact fun _ _ _ h => h
  case hwx13ox10 => rfl
  case hyx13ox10 =>
    intro W hW
    go_simp
    try with_reducible rfl
  simp only [Act.put, List.setIfInBounds_toArray, List.set_cons_succ, List.set_cons_zero]
  refine' wpAnyH_take (i := 14) ?h1x14ox10 ?hsx14ox10 ?hfx14ox10 ?hrx14ox10 ?hQx14ox10 (Or.inl ⟨?hwx14ox10, ?hyx14ox10⟩) hS ?restx14ox10
  case h1x14ox10 => (simp only [List.getElem?_toArray, List.getElem?_cons_succ, List.getElem?_cons_zero]; rfl)
  case hsx14ox10 => kernel_rfl
  case hfx14ox10 => kernel_rfl
  case hrx14ox10 => kernel_rfl
  case hQx14ox10 => exact fun _ _ _ h => h
  case hwx14ox10 => rfl
  case hyx14ox10 =>
    intro W hW
    go_simp
    try with_reducible rfl
  simp only [Act.put, List.setIfInBounds_toArray, List.set_cons_succ, List.set_cons_zero]
  refine wpAnyH_done (by kernel_rfl) ?_ _
  have Q3 := Lib.hid (Nat.le_trans HQ0.out HQ.out)
  have HS := Lib.hid hS
  clear hS
  go_wp2_with fail
  go_ret2
  exact ⟨q, rfl, Q3.out, RQ.out, HS.out⟩
end Go.Proofs.YtpkeofioobmmoaaDoor
