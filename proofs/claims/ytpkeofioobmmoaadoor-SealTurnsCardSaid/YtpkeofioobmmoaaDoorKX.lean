/-
  The contract of alive of package casematelaw22. Condition: none.
-/
import Derived.Test.YtpkeofioobmmoaaDoorKW
namespace Go.Proofs.YtpkeofioobmmoaaDoor
open Go.RowKit Go.Proofs.YtpkeofioobmmoaaDoor.ae
set_option maxRecDepth 100000 in
set_option maxHeartbeats 4000000 in
theorem alive22 (w : World) (hG : sh.Glob w) : Calls Tryd.prog 21 #[] w fun e w' => e = .returned (.bool true) ∧ Below w.heap.size w w' := by
  have b1 := build23a
  have kc := fun (w : World) (C : Array Value) (n c : Nat) => sh.conv22 w C n c
  have BL : Hid (∀ (W : World) (q : Nat) (fr : Nat × Nat), W.heap[q]? = some (.cells #[.int .u8 120] 5 fr) → Calls Tryd.prog 26 #[.slice (some ⟨q, 0, none⟩) 1 1] W (BlkP W [120])) :=
    fun W q fr h => blockC [120] _ 1 1 W (sees_row W q [120] (fun x h => by simp at h; omega) (by decide) h 1 rfl) rfl (by omega)
  have SR : ∀ (W : World) (q : Nat) (J : List Nat), ae.Byt J → J.length = 512 → W.heap[q]? = some (.cells (ncells J) 5 (0, 0)) → ae.Sees W (.slice (some ⟨q, 0, none⟩) 512 512) J := fun W q J hJ hl hq => sees_row W q J hJ (by rw [hl]; decide) hq 512 hl.symm
  have yJ : ae.Byt (sealN xk1 2 3 fb) := sealN_byt xk1_bts 2 3 fb_byt
  have SE : Hid (∀ (W : World) (q : Nat), sh.Glob W → W.heap[q]? = some (.cells (ncells fb) 5 (0, 0)) → Calls Tryd.prog 22 #[.agg (ncells xk1), .int .u64 2, .int .u64 3, .slice (some ⟨q, 0, none⟩) 512 512] W (SecP W 512 (sealN xk1 2 3 fb))) :=
    fun W q hg h => sealC xk1 fb xk1_bts 2 3 (by omega) _ 512 W (SR W q fb fb_byt fb_len h) fb_len.symm hg
  have OP : Hid (∀ (W : World) (q : Nat), sh.Glob W → W.heap[q]? = some (.cells (ncells (sealN xk1 2 3 fb)) 5 (0, 0)) → Calls Tryd.prog 24 #[.agg (ncells xk1), .int .u64 2, .int .u64 3, .slice (some ⟨q, 0, none⟩) 512 512] W (SecP W 512 fb)) :=
    fun W q hg h => by
      have := openC xk1 _ xk1_bts 2 3 (by omega) _ 512 W (SR W q _ yJ (sealN_len _ _ _ _) h) (sealN_len _ _ _ _).symm hg
      rw [open_seal xk1_bts 2 3 fb_len fb_byt] at this
      exact this
  have SN : Hid (∀ (W : World) (q : Nat), Calls Tryd.prog 22 #[.agg (ncells xk1), .int .u64 2, .int .u64 3, .slice (some ⟨q, 0, none⟩) 511 511] W fun e w' => e = .returned (.tuple #[.slice none 0 0, .int .i64 3]) ∧ Below W.heap.size W w') :=
    fun W q => sealNo xk1 xk1_bts 2 3 _ 511 511 (by omega) W
  have hmk : ∀ W : World, (Instr.makeSlice 49 (.int .i64 511) (.int .i64 511)).run Tryd.prog W = .ok (.slice (some ⟨W.heap.size, 0, none⟩) 511 511) (W.alloc (.cells (ncells (zeros 511)) 5)) := fun W => mkN 511 (by omega) W
  have STJ : Hid (∀ (W : World) (q : Nat), W.heap[q]? = some (.cells (ncells (sealN xk1 2 3 fb)) 5 (0, 0)) → (convert 49 9 (.slice (some ⟨q, 0, none⟩) 512 512)).run Tryd.prog W = .ok (.string (strN (sealN xk1 2 3 fb))) W) := fun W q h => (SR W q _ yJ (sealN_len _ _ _ _) h).str
  have STP : Hid (∀ (W : World) (q : Nat), W.heap[q]? = some (.cells (ncells fb) 5 (0, 0)) → (convert 49 9 (.slice (some ⟨q, 0, none⟩) 512 512)).run Tryd.prog W = .ok (.string (strN fb)) W) := fun W q h => (SR W q _ fb_byt fb_len h).str
  have ne1 : ((strN (sealN xk1 2 3 fb)).toList == (strN fb).toList) = false := by
    rw [strN_eq yJ fb_byt]; simpa using f_seal
  have NE1 := Lib.hid ne1
  have NE2 : Hid (((strN (sealN xk1 2 3 fb)).toList != (strN fb).toList) = true) := by show _ = _; rw [bne, ne1]; rfl
  have EQ : Hid (((strN fb).toList == (strN fb).toList) = true) := by show _ = _; simp
  have FB : Hid (fb = padN [120]) := rfl
  have HG := Lib.hid hG
  clear ne1 yJ SR hG
  generalize sealN xk1 2 3 fb = J at SE OP STJ NE1 NE2
  generalize strN J = SJ at STJ NE1 NE2
  generalize strN fb = SP at STP NE1 NE2 EQ
  go_enter Tryd.func21, Tryd.ntmps21
  go_wp2_with fail
  have al0 : Below w.heap.size w (w.alloc (.cells #[.int .u8 120] 5 (1, 2))) := (Below.refl _ _).alloc (Nat.le_refl _) _
  refine (BL.out _ _ _ (heap_alloc_new w _)).mono ?_
  rintro e w1 ⟨q0, rfl, hq, hr, hb⟩
  have R0 : Hid (w1.heap[q0]? = some (.cells (ncells fb) 5 (0, 0))) := hr
  have B1 := Lib.hid (al0.trans (hb.mono al0.size))
  have G1 := Lib.hid (HG.out.below B1.out HG.out.lt)
  clear hq hr hb al0 HG
  go_wp2_with fail
  refine (SE.out _ _ G1.out R0.out).mono ?_
  rintro e w2 ⟨q1, rfl, hq, hr, hb⟩
  have R1 := Lib.hid hr
  have B2 := Lib.hid (B1.out.trans (hb.mono B1.out.size))
  have G2 := Lib.hid (G1.out.below hb G1.out.lt)
  clear hq hr hb B1 G1 R0 SE
  go_wp2_with fail
  refine (OP.out _ _ G2.out R1.out).mono ?_
  rintro e w3 ⟨q2, rfl, hq, hr, hb⟩
  have al : Below w3.heap.size w3 (w3.alloc (.cells (ncells (zeros 511)) 5)) := (Below.refl _ _).alloc (Nat.le_refl _) _
  have R2 := Lib.hid ((al.block _ (blk_lt hr)).trans hr)
  have q1' := (hb.block _ (blk_lt R1.out)).trans R1.out
  have R1 := Lib.hid ((al.block _ (blk_lt q1')).trans q1')
  have b3 := B2.out.trans (hb.mono B2.out.size)
  have B3 := Lib.hid (b3.trans (al.mono b3.size))
  clear hq hr hb al b3 q1' B2 G2 OP
  go_wp2_with fail
  refine (SN.out _ _).mono ?_
  rintro e w4 ⟨rfl, hb⟩
  have R2 := Lib.hid ((hb.block _ (blk_lt R2.out)).trans R2.out)
  have R1 := Lib.hid ((hb.block _ (blk_lt R1.out)).trans R1.out)
  have B4 := Lib.hid (B3.out.trans (hb.mono B3.out.size))
  clear hb B3 SN
  go_wp2_with fail
  refine wp_region_held_drew (S := fun W => Below w4.heap.size w4 W) (by kernel_rfl) ((Below.refl _ _).drew) (fun hS => ?_)
  have hb0 : Below w4.heap.size w4 w4.drew := (Below.refl _ _).drew
  clear hb0 
  generalize w4.drew = Wzs at hS  ⊢
  refine' wpAnyH_take (i := 0) ?h1x0z ?hsx0z ?hfx0z ?hrx0z ?hQx0z (Or.inl ⟨?hwx0z, ?hyx0z⟩) hS ?restx0z
  case h1x0z => (simp only [List.getElem?_toArray, List.getElem?_cons_zero]; rfl)
  case hsx0z => kernel_rfl
  case hfx0z => kernel_rfl
  case hrx0z => kernel_rfl
  case hQx0z => exact fun _ _ _ h => h
  case hwx0z => rfl
  case hyx0z =>
    intro W hW
    go_simp
    try with_reducible rfl
  simp only [Act.put, List.setIfInBounds_toArray, List.set_cons_succ, List.set_cons_zero]
  refine' wpAnyH_take (i := 1) ?h1x1z ?hsx1z ?hfx1z ?hrx1z ?hQx1z (Or.inl ⟨?hwx1z, ?hyx1z⟩) hS ?restx1z
  case h1x1z => (simp only [List.getElem?_toArray, List.getElem?_cons_succ, List.getElem?_cons_zero]; rfl)
  case hsx1z => kernel_rfl
  case hfx1z => kernel_rfl
  case hrx1z => kernel_rfl
  case hQx1z => exact fun _ _ _ h => h
  case hwx1z => rfl
  case hyx1z =>
    intro W hW
    go_simp
    try with_reducible rfl
  simp only [Act.put, List.setIfInBounds_toArray, List.set_cons_succ, List.set_cons_zero]
  refine' wpAnyH_take (i := 2) ?h1x2z ?hsx2z ?hfx2z ?hrx2z ?hQx2z (Or.inl ⟨?hwx2z, ?hyx2z⟩) hS ?restx2z
  case h1x2z => (simp only [List.getElem?_toArray, List.getElem?_cons_succ, List.getElem?_cons_zero]; rfl)
  case hsx2z => kernel_rfl
  case hfx2z => kernel_rfl
  case hrx2z => kernel_rfl
  case hQx2z => exact fun _ _ _ h => h
  case hwx2z => rfl
  case hyx2z =>
    intro W hW
    go_simp
    try with_reducible rfl
  simp only [Act.put, List.setIfInBounds_toArray, List.set_cons_succ, List.set_cons_zero]
  refine' wpAnyH_take (i := 3) ?h1x3z ?hsx3z ?hfx3z ?hrx3z ?hQx3z (Or.inl ⟨?hwx3z, ?hyx3z⟩) hS ?restx3z
  case h1x3z => (simp only [List.getElem?_toArray, List.getElem?_cons_succ, List.getElem?_cons_zero]; rfl)
  case hsx3z => kernel_rfl
  case hfx3z => kernel_rfl
  case hrx3z => kernel_rfl
  case hQx3z => exact fun _ _ _ h => h
  case hwx3z => rfl
  case hyx3z =>
    intro W hW
    go_simp
    try with_reducible rfl
  simp only [Act.put, List.setIfInBounds_toArray, List.set_cons_succ, List.set_cons_zero]
  refine' wpAnyH_take (i := 4) ?h1x4z ?hsx4z ?hfx4z ?hrx4z ?hQx4z (Or.inl ⟨?hwx4z, ?hyx4z⟩) hS ?restx4z
  case h1x4z => (simp only [List.getElem?_toArray, List.getElem?_cons_succ, List.getElem?_cons_zero]; rfl)
  case hsx4z => kernel_rfl
  case hfx4z => kernel_rfl
  case hrx4z => kernel_rfl
  case hQx4z => exact fun _ _ _ h => h
  case hwx4z => rfl
  case hyx4z =>
    intro W hW
    go_simp
    try with_reducible rfl
  simp only [Act.put, List.setIfInBounds_toArray, List.set_cons_succ, List.set_cons_zero]
  refine' wpAnyH_take (i := 5) ?h1x5z ?hsx5z ?hfx5z ?hrx5z ?hQx5z (Or.inl ⟨?hwx5z, ?hyx5z⟩) hS ?restx5z
  case h1x5z => (simp only [List.getElem?_toArray, List.getElem?_cons_succ, List.getElem?_cons_zero]; rfl)
  case hsx5z => kernel_rfl
  case hfx5z => kernel_rfl
  case hrx5z => kernel_rfl
  case hQx5z => exact fun _ _ _ h => h
  case hwx5z => rfl
  case hyx5z =>
    intro W hW
    go_simp
    try with_reducible rfl
  simp only [Act.put, List.setIfInBounds_toArray, List.set_cons_succ, List.set_cons_zero]
  refine' wpAnyH_take (i := 6) ?h1x6z ?hsx6z ?hfx6z ?hrx6z ?hQx6z (Or.inl ⟨?hwx6z, ?hyx6z⟩) hS ?restx6z
  case h1x6z => (simp only [List.getElem?_toArray, List.getElem?_cons_succ, List.getElem?_cons_zero]; rfl)
  case hsx6z => kernel_rfl
  case hfx6z => kernel_rfl
  case hrx6z => kernel_rfl
  case hQx6z => exact fun _ _ _ h => h
  case hwx6z => rfl
  case hyx6z =>
    intro W hW
    go_simp
    try with_reducible rfl
  simp only [Act.put, List.setIfInBounds_toArray, List.set_cons_succ, List.set_cons_zero]
  refine' wpAnyH_take (i := 7) ?h1x7z ?hsx7z ?hfx7z ?hrx7z ?hQx7z (Or.inl ⟨?hwx7z, ?hyx7z⟩) hS ?restx7z
  case h1x7z => (simp only [List.getElem?_toArray, List.getElem?_cons_succ, List.getElem?_cons_zero]; rfl)
  case hsx7z => kernel_rfl
  case hfx7z => kernel_rfl
  case hrx7z => kernel_rfl
  case hQx7z => exact fun _ _ _ h => h
  case hwx7z => rfl
  case hyx7z =>
    intro W hW
    go_simp
    try with_reducible rfl
  simp only [Act.put, List.setIfInBounds_toArray, List.set_cons_succ, List.set_cons_zero]
  refine' wpAnyH_take (i := 8) ?h1x8z ?hsx8z ?hfx8z ?hrx8z ?hQx8z (Or.inl ⟨?hwx8z, ?hyx8z⟩) hS ?restx8z
  case h1x8z => (simp only [List.getElem?_toArray, List.getElem?_cons_succ, List.getElem?_cons_zero]; rfl)
  case hsx8z => kernel_rfl
  case hfx8z => kernel_rfl
  case hrx8z => kernel_rfl
  case hQx8z => exact fun _ _ _ h => h
  case hwx8z => rfl
  case hyx8z =>
    intro W hW
    go_simp
    try with_reducible rfl
  simp only [Act.put, List.setIfInBounds_toArray, List.set_cons_succ, List.set_cons_zero]
  refine' wpAnyH_take (i := 9) ?h1x9z ?hsx9z ?hfx9z ?hrx9z ?hQx9z (Or.inl ⟨?hwx9z, ?hyx9z⟩) hS ?restx9z
  case h1x9z => (simp only [List.getElem?_toArray, List.getElem?_cons_succ, List.getElem?_cons_zero]; rfl)
  case hsx9z => kernel_rfl
  case hfx9z => kernel_rfl
  case hrx9z => kernel_rfl
  case hQx9z => exact fun _ _ _ h => h
  case hwx9z => rfl
  case hyx9z =>
    intro W hW
    have cs := STJ.out W q1 ((hW.block _ (blk_lt R1.out)).trans R1.out)
    go_simp
    try with_reducible rfl
  simp only [Act.put, List.setIfInBounds_toArray, List.set_cons_succ, List.set_cons_zero]
  refine' wpAnyH_take (i := 10) ?h1x10z ?hsx10z ?hfx10z ?hrx10z ?hQx10z (Or.inl ⟨?hwx10z, ?hyx10z⟩) hS ?restx10z
  case h1x10z => (simp only [List.getElem?_toArray, List.getElem?_cons_succ, List.getElem?_cons_zero]; rfl)
  case hsx10z => kernel_rfl
  case hfx10z => kernel_rfl
  case hrx10z => kernel_rfl
  case hQx10z => exact fun _ _ _ h => h
  case hwx10z => rfl
  case hyx10z =>
    intro W hW
    go_simp
    try with_reducible rfl
  simp only [Act.put, List.setIfInBounds_toArray, List.set_cons_succ, List.set_cons_zero]
  refine' wpAnyH_take (i := 11) ?h1x11z ?hsx11z ?hfx11z ?hrx11z ?hQx11z (Or.inl ⟨?hwx11z, ?hyx11z⟩) hS ?restx11z
  case h1x11z => (simp only [List.getElem?_toArray, List.getElem?_cons_succ, List.getElem?_cons_zero]; rfl)
  case hsx11z => kernel_rfl
  case hfx11z => kernel_rfl
  case hrx11z => kernel_rfl
  case hQx11z => exact fun _ _ _ h => h
  case hwx11z => rfl
  case hyx11z =>
    intro W hW
    have cs := STP.out W q2 ((hW.block _ (blk_lt R2.out)).trans R2.out)
    go_simp
    try with_reducible rfl
  simp only [Act.put, List.setIfInBounds_toArray, List.set_cons_succ, List.set_cons_zero]
  refine' wpAnyH_take (i := 12) ?h1x12z ?hsx12z ?hfx12z ?hrx12z ?hQx12z (Or.inl ⟨?hwx12z, ?hyx12z⟩) hS ?restx12z
  case h1x12z => (simp only [List.getElem?_toArray, List.getElem?_cons_succ, List.getElem?_cons_zero]; rfl)
  case hsx12z => kernel_rfl
  case hfx12z => kernel_rfl
  case hrx12z => kernel_rfl
  case hQx12z => exact fun _ _ _ h => h
  case hwx12z => rfl
  case hyx12z =>
    intro W hW
    have n1 := NE1.out
    have n2 := NE2.out
    go_simp
    try with_reducible rfl
  simp only [Act.put, List.setIfInBounds_toArray, List.set_cons_succ, List.set_cons_zero]
  refine' wpAnyH_take (i := 13) ?h1x13z ?hsx13z ?hfx13z ?hrx13z ?hQx13z (Or.inl ⟨?hwx13z, ?hyx13z⟩) hS ?restx13z
  case h1x13z => (simp only [List.getElem?_toArray, List.getElem?_cons_succ, List.getElem?_cons_zero]; rfl)
  case hsx13z => kernel_rfl
  case hfx13z => kernel_rfl
  case hrx13z => kernel_rfl
  case hQx13z => exact fun _ _ _ h => h
  case hwx13z => rfl
  case hyx13z =>
    intro W hW
    go_simp
    try with_reducible rfl
  simp only [Act.put, List.setIfInBounds_toArray, List.set_cons_succ, List.set_cons_zero]
  refine' wpAnyH_take (i := 14) ?h1x14z ?hsx14z ?hfx14z ?hrx14z ?hQx14z (Or.inl ⟨?hwx14z, ?hyx14z⟩) hS ?restx14z
  case h1x14z => (simp only [List.getElem?_toArray, List.getElem?_cons_succ, List.getElem?_cons_zero]; rfl)
  case hsx14z => kernel_rfl
  case hfx14z => kernel_rfl
  case hrx14z => kernel_rfl
  case hQx14z => exact fun _ _ _ h => h
  case hwx14z => rfl
  case hyx14z =>
    intro W hW
    go_simp
    try with_reducible rfl
  simp only [Act.put, List.setIfInBounds_toArray, List.set_cons_succ, List.set_cons_zero]
  refine' wpAnyH_take (i := 15) ?h1x15z ?hsx15z ?hfx15z ?hrx15z ?hQx15z (Or.inl ⟨?hwx15z, ?hyx15z⟩) hS ?restx15z
  case h1x15z => (simp only [List.getElem?_toArray, List.getElem?_cons_succ, List.getElem?_cons_zero]; rfl)
  case hsx15z => kernel_rfl
  case hfx15z => kernel_rfl
  case hrx15z => kernel_rfl
  case hQx15z => exact fun _ _ _ h => h
  case hwx15z => rfl
  case hyx15z =>
    intro W hW
    go_simp
    try with_reducible rfl
  simp only [Act.put, List.setIfInBounds_toArray, List.set_cons_succ, List.set_cons_zero]
  refine' wpAnyH_take (i := 16) ?h1x16z ?hsx16z ?hfx16z ?hrx16z ?hQx16z (Or.inl ⟨?hwx16z, ?hyx16z⟩) hS ?restx16z
  case h1x16z => (simp only [List.getElem?_toArray, List.getElem?_cons_succ, List.getElem?_cons_zero]; rfl)
  case hsx16z => kernel_rfl
  case hfx16z => kernel_rfl
  case hrx16z => kernel_rfl
  case hQx16z => exact fun _ _ _ h => h
  case hwx16z => rfl
  case hyx16z =>
    intro W hW
    go_simp
    try with_reducible rfl
  simp only [Act.put, List.setIfInBounds_toArray, List.set_cons_succ, List.set_cons_zero]
  refine' wpAnyH_take (i := 17) ?h1x17z ?hsx17z ?hfx17z ?hrx17z ?hQx17z (Or.inl ⟨?hwx17z, ?hyx17z⟩) hS ?restx17z
  case h1x17z => (simp only [List.getElem?_toArray, List.getElem?_cons_succ, List.getElem?_cons_zero]; rfl)
  case hsx17z => kernel_rfl
  case hfx17z => kernel_rfl
  case hrx17z => kernel_rfl
  case hQx17z => exact fun _ _ _ h => h
  case hwx17z => rfl
  case hyx17z =>
    intro W hW
    go_simp
    try with_reducible rfl
  simp only [Act.put, List.setIfInBounds_toArray, List.set_cons_succ, List.set_cons_zero]
  refine' wpAnyH_take (i := 18) ?h1x18z ?hsx18z ?hfx18z ?hrx18z ?hQx18z (Or.inl ⟨?hwx18z, ?hyx18z⟩) hS ?restx18z
  case h1x18z => (simp only [List.getElem?_toArray, List.getElem?_cons_succ, List.getElem?_cons_zero]; rfl)
  case hsx18z => kernel_rfl
  case hfx18z => kernel_rfl
  case hrx18z => kernel_rfl
  case hQx18z => exact fun _ _ _ h => h
  case hwx18z => rfl
  case hyx18z =>
    intro W hW
    go_simp
    try with_reducible rfl
  simp only [Act.put, List.setIfInBounds_toArray, List.set_cons_succ, List.set_cons_zero]
  refine' wpAnyH_take (i := 19) ?h1x19z ?hsx19z ?hfx19z ?hrx19z ?hQx19z (Or.inl ⟨?hwx19z, ?hyx19z⟩) hS ?restx19z
  case h1x19z => (simp only [List.getElem?_toArray, List.getElem?_cons_succ, List.getElem?_cons_zero]; rfl)
  case hsx19z => kernel_rfl
  case hfx19z => kernel_rfl
  case hrx19z => kernel_rfl
  case hQx19z => exact fun _ _ _ h => h
  case hwx19z => rfl
  case hyx19z =>
    intro W hW
    go_simp
    try with_reducible rfl
  simp only [Act.put, List.setIfInBounds_toArray, List.set_cons_succ, List.set_cons_zero]
  refine' wpAnyH_take (i := 20) ?h1x20z ?hsx20z ?hfx20z ?hrx20z ?hQx20z (Or.inl ⟨?hwx20z, ?hyx20z⟩) hS ?restx20z
  case h1x20z => (simp only [List.getElem?_toArray, List.getElem?_cons_succ, List.getElem?_cons_zero]; rfl)
  case hsx20z => kernel_rfl
  case hfx20z => kernel_rfl
  case hrx20z => kernel_rfl
  case hQx20z => exact fun _ _ _ h => h
  case hwx20z => rfl
  case hyx20z =>
    intro W hW
    have cs := STP.out W q2 ((hW.block _ (blk_lt R2.out)).trans R2.out)
    go_simp
    try with_reducible rfl
  simp only [Act.put, List.setIfInBounds_toArray, List.set_cons_succ, List.set_cons_zero]
  refine wpAnyH_ready (rs := [21]) (by kernel_rfl) (by simp) ?_
  refine' (AllReadyH.cons ?hoc21z (fun K hK => ?stc21z) AllReadyH.nil)
  case hoc21z => (simp only [List.getElem?_toArray, List.getElem?_cons_succ, List.getElem?_cons_zero]; rfl)
  go_simp
  have hS1 := hS
  have hal1 : Below Wzs.heap.size Wzs (Wzs.alloc (.cells #[.int .u8 120] 5)) := (Below.refl _ _).alloc (Nat.le_refl _) _
  refine hK.out _ _ (hS.alloc hS.size _) (fun hHeld => ?_)
  clear hK K
  try simp only [Act.put, List.setIfInBounds_toArray, List.set_cons_succ, List.set_cons_zero]
  clear hHeld hal1
  refine wpAnyH_ready (rs := [22]) (by kernel_rfl) (by simp) ?_
  refine' AllReadyH.cons ?hoc22zx21t (fun K hK => ?stc22zx21t) AllReadyH.nil
  case hoc22zx21t => (simp only [List.getElem?_toArray, List.getElem?_cons_succ, List.getElem?_cons_zero]; rfl)
  have cv := sh.conv22 Wzs #[.int .u8 120] 1 1
  go_simp
  have hb : Below Wzs.heap.size Wzs (Wzs.alloc (.cells #[.int .u8 120] 5 (1, 2))) := (Below.refl _ _).alloc (Nat.le_refl _) _
  refine hK.out _ _ (hS1.alloc hS1.size _) (fun hHeld => ?_)
  clear hK K cv
  try simp only [Act.put, List.setIfInBounds_toArray, List.set_cons_succ, List.set_cons_zero]
  have qRT := heap_alloc_new Wzs (.cells #[.int .u8 120] 5 (1, 2))
  clear hS1 
  clear hS
  have hS := hHeld
  clear hHeld
  clear hb
  generalize Wzs.alloc (.cells #[.int .u8 120] 5 (1, 2)) = Wzx21t at *
  generalize Wzs.heap.size = qt at *
  have RT := Lib.hid qRT
  clear qRT
  refine wpAnyH_ready (rs := [23]) (by kernel_rfl) (by simp) ?_
  refine' (AllReadyH.cons ?hoc23zx21 (fun K hK => ?stc23zx21) AllReadyH.nil)
  case hoc23zx21 => (simp only [List.getElem?_toArray, List.getElem?_cons_succ, List.getElem?_cons_zero]; rfl)
  go_simp
  refine (BL.out Wzx21t qt _ RT.out).mono ?_
  rintro e Wzx21x23 ⟨qb, rfl, hq, hr, hb⟩
  have RT := Lib.hid ((hb.block _ (blk_lt RT.out)).trans RT.out)
  have RB : Hid (Wzx21x23.heap[qb]? = some (.cells (ncells fb) 5 (0, 0))) := hr
  clear hq hr
  go_wp2_with fail
  refine hK.out _ _ (hS.trans (hb.mono hS.size)) (fun hHeld => ?_)
  clear hK K
  try simp only [Act.put, List.setIfInBounds_toArray, List.set_cons_succ, List.set_cons_zero]
  clear hS
  have hS := hHeld
  clear hHeld
  clear hb
  refine wpAnyH_ready (rs := [24]) (by kernel_rfl) (by simp) ?_
  refine' (AllReadyH.cons ?hoc24zx21x23 (fun K hK => ?stc24zx21x23) AllReadyH.nil)
  case hoc24zx21x23 => (simp only [List.getElem?_toArray, List.getElem?_cons_succ, List.getElem?_cons_zero]; rfl)
  have cs := STP.out Wzx21x23 qb RB.out
  go_simp
  refine hK.out _ _ hS (fun hHeld => ?_)
  clear hK K
  try simp only [Act.put, List.setIfInBounds_toArray, List.set_cons_succ, List.set_cons_zero]
  clear hS
  have hS := hHeld
  clear hHeld
  refine' wpAnyH_take (i := 25) ?h1x25zx21x23x24 ?hsx25zx21x23x24 ?hfx25zx21x23x24 ?hrx25zx21x23x24 ?hQx25zx21x23x24 (Or.inl ⟨?hwx25zx21x23x24, ?hyx25zx21x23x24⟩) hS ?restx25zx21x23x24
  case h1x25zx21x23x24 => (simp only [List.getElem?_toArray, List.getElem?_cons_succ, List.getElem?_cons_zero]; rfl)
  case hsx25zx21x23x24 => kernel_rfl
  case hfx25zx21x23x24 => kernel_rfl
  case hrx25zx21x23x24 => kernel_rfl
  case hQx25zx21x23x24 => exact fun _ _ _ h => h
  case hwx25zx21x23x24 => rfl
  case hyx25zx21x23x24 =>
    intro W hW
    have n1 := EQ.out
    go_simp
    try with_reducible rfl
  simp only [Act.put, List.setIfInBounds_toArray, List.set_cons_succ, List.set_cons_zero]
  refine' wpAnyH_take (i := 26) ?h1x26zx21x23x24 ?hsx26zx21x23x24 ?hfx26zx21x23x24 ?hrx26zx21x23x24 ?hQx26zx21x23x24 (Or.inl ⟨?hwx26zx21x23x24, ?hyx26zx21x23x24⟩) hS ?restx26zx21x23x24
  case h1x26zx21x23x24 => (simp only [List.getElem?_toArray, List.getElem?_cons_succ, List.getElem?_cons_zero]; rfl)
  case hsx26zx21x23x24 => kernel_rfl
  case hfx26zx21x23x24 => kernel_rfl
  case hrx26zx21x23x24 => kernel_rfl
  case hQx26zx21x23x24 => exact fun _ _ _ h => h
  case hwx26zx21x23x24 => rfl
  case hyx26zx21x23x24 =>
    intro W hW
    go_simp
    try with_reducible rfl
  simp only [Act.put, List.setIfInBounds_toArray, List.set_cons_succ, List.set_cons_zero]
  refine' wpAnyH_take (i := 27) ?h1x27zx21x23x24 ?hsx27zx21x23x24 ?hfx27zx21x23x24 ?hrx27zx21x23x24 ?hQx27zx21x23x24 (Or.inl ⟨?hwx27zx21x23x24, ?hyx27zx21x23x24⟩) hS ?restx27zx21x23x24
  case h1x27zx21x23x24 => (simp only [List.getElem?_toArray, List.getElem?_cons_succ, List.getElem?_cons_zero]; rfl)
  case hsx27zx21x23x24 => kernel_rfl
  case hfx27zx21x23x24 => kernel_rfl
  case hrx27zx21x23x24 => kernel_rfl
  case hQx27zx21x23x24 => exact fun _ _ _ h => h
  case hwx27zx21x23x24 => rfl
  case hyx27zx21x23x24 =>
    intro W hW
    go_simp
    try with_reducible rfl
  simp only [Act.put, List.setIfInBounds_toArray, List.set_cons_succ, List.set_cons_zero]
  refine' wpAnyH_take (i := 28) ?h1x28zx21x23x24 ?hsx28zx21x23x24 ?hfx28zx21x23x24 ?hrx28zx21x23x24 ?hQx28zx21x23x24 (Or.inl ⟨?hwx28zx21x23x24, ?hyx28zx21x23x24⟩) hS ?restx28zx21x23x24
  case h1x28zx21x23x24 => (simp only [List.getElem?_toArray, List.getElem?_cons_succ, List.getElem?_cons_zero]; rfl)
  case hsx28zx21x23x24 => kernel_rfl
  case hfx28zx21x23x24 => kernel_rfl
  case hrx28zx21x23x24 => kernel_rfl
  case hQx28zx21x23x24 => exact fun _ _ _ h => h
  case hwx28zx21x23x24 => rfl
  case hyx28zx21x23x24 =>
    intro W hW
    go_simp
    try with_reducible rfl
  simp only [Act.put, List.setIfInBounds_toArray, List.set_cons_succ, List.set_cons_zero]
  refine' wpAnyH_take (i := 29) ?h1x29zx21x23x24 ?hsx29zx21x23x24 ?hfx29zx21x23x24 ?hrx29zx21x23x24 ?hQx29zx21x23x24 (Or.inl ⟨?hwx29zx21x23x24, ?hyx29zx21x23x24⟩) hS ?restx29zx21x23x24
  case h1x29zx21x23x24 => (simp only [List.getElem?_toArray, List.getElem?_cons_succ, List.getElem?_cons_zero]; rfl)
  case hsx29zx21x23x24 => kernel_rfl
  case hfx29zx21x23x24 => kernel_rfl
  case hrx29zx21x23x24 => kernel_rfl
  case hQx29zx21x23x24 => exact fun _ _ _ h => h
  case hwx29zx21x23x24 => rfl
  case hyx29zx21x23x24 =>
    intro W hW
    go_simp
    try with_reducible rfl
  simp only [Act.put, List.setIfInBounds_toArray, List.set_cons_succ, List.set_cons_zero]
  refine' wpAnyH_take (i := 30) ?h1x30zx21x23x24 ?hsx30zx21x23x24 ?hfx30zx21x23x24 ?hrx30zx21x23x24 ?hQx30zx21x23x24 (Or.inl ⟨?hwx30zx21x23x24, ?hyx30zx21x23x24⟩) hS ?restx30zx21x23x24
  case h1x30zx21x23x24 => (simp only [List.getElem?_toArray, List.getElem?_cons_succ, List.getElem?_cons_zero]; rfl)
  case hsx30zx21x23x24 => kernel_rfl
  case hfx30zx21x23x24 => kernel_rfl
  case hrx30zx21x23x24 => kernel_rfl
  case hQx30zx21x23x24 => exact fun _ _ _ h => h
  case hwx30zx21x23x24 => rfl
  case hyx30zx21x23x24 =>
    intro W hW
    go_simp
    try with_reducible rfl
  simp only [Act.put, List.setIfInBounds_toArray, List.set_cons_succ, List.set_cons_zero]
  refine' wpAnyH_take (i := 31) ?h1x31zx21x23x24 ?hsx31zx21x23x24 ?hfx31zx21x23x24 ?hrx31zx21x23x24 ?hQx31zx21x23x24 (Or.inl ⟨?hwx31zx21x23x24, ?hyx31zx21x23x24⟩) hS ?restx31zx21x23x24
  case h1x31zx21x23x24 => (simp only [List.getElem?_toArray, List.getElem?_cons_succ, List.getElem?_cons_zero]; rfl)
  case hsx31zx21x23x24 => kernel_rfl
  case hfx31zx21x23x24 => kernel_rfl
  case hrx31zx21x23x24 => kernel_rfl
  case hQx31zx21x23x24 => exact fun _ _ _ h => h
  case hwx31zx21x23x24 => rfl
  case hyx31zx21x23x24 =>
    intro W hW
    go_simp
    try with_reducible rfl
  simp only [Act.put, List.setIfInBounds_toArray, List.set_cons_zero]
  refine wpAnyH_done (by kernel_rfl) ?_ _
  go_wp2_with fail
  go_ret
  exact ⟨rfl, B4.out.trans (hS.mono B4.out.size)⟩
end Go.Proofs.YtpkeofioobmmoaaDoor
