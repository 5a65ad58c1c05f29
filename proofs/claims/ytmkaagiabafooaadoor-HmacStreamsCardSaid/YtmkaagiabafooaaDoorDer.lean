/-
  Contracts of hmac.Derive. Condition: the name reads as bytes, of bounded length.
-/
import Derived.Test.YtmkaagiabafooaaDoorRefT
namespace Go.Proofs.YtmkaagiabafooaaDoor
open Go.RowKit
/-- A conversion whose run is known, in a region that draws. -/
theorem step_conv_run {P : Program} {ops : Array Oper} {o : Oper} {a : Act} {w : World} {K : Act → World → Prop} {Q : Exit → Act → World → Prop} {E : Prop} (hgd : o.guard = none) (x : Operand) (src dst : TypeId)
    (ho : o.op = .convert src dst x) {v u : Value} {w' : World} (hx : a.eval x = v) (hr : (convert src dst v).run P w = .ok u w')
    (hK : K (a.put o.dst u) w') : if Region.wanted o (yielded ops a.tmps) = true then Oper.wp P o a w K Q else E := by
  have hw : Region.wanted o (yielded ops a.tmps) = true := by simp [Region.wanted, hgd]
  rw [if_pos hw]
  unfold Oper.wp execOp
  simp only [ho, hx, Sem.run_bind, Sem.run_pure, Result.andThen_ok, hr]
  exact hK
/-- What the region of Derive keeps: all that was there, the key's row and the result's. -/
def SK (w : World) (C Z : Array Value) (W : World) : Prop :=
  Below w.heap.size w W ∧ W.heap[w.heap.size]? = some (.cells C 48 (0, 0)) ∧ W.heap[w.heap.size + 1]? = some (.cells Z 48 (0, 0))
theorem SK.step {w W W' : World} {C Z : Array Value} {base : Nat} (h : SK w C Z W) (hb : Below base W W') (hl : w.heap.size + 2 ≤ base) : SK w C Z W' :=
  ⟨h.1.trans (hb.mono (by omega)), by rw [hb.block _ (by omega)]; exact h.2.1, by rw [hb.block _ (by omega)]; exact h.2.2⟩
theorem SK.range {w W : World} {C Z : Array Value} (h : SK w C Z W) : W.rangeAt w.heap.size 0 C.toList := fun j v hv => by rw [Nat.zero_add, cell_of_row _ _ _ _ _ _ h.2.1]; simpa using hv
theorem SK.row {w W : World} {C Z : Array Value} (h : SK w C Z W) (g : Nat) (hg : w.heap.size + 2 ≤ g) (D : Array Value) : SK w C Z (W.setRow g D) :=
  ⟨h.1.trans (below_row _ _ (by omega)), by rw [setRow_other _ _ _ _ (by omega)]; exact h.2.1, by rw [setRow_other _ _ _ _ (by omega)]; exact h.2.2⟩
theorem strm32 (key nm : List Int) (hk : Byt key) : tstr key nm 1 = strm key nm 32 := by
  have := tstr_strm key nm hk 32 1 (by omega) (by omega)
  rw [← this, List.take_of_length_le (by rw [tstr_len key nm hk]; omega)]
theorem stream32 (key name : List Int) (vn : Value) (w : World) (C : Array Value) (hC : C = bcells key) (hk : Byt key) (lk : key.length = 32) (hv : Sees w vn name) (ln : name.length ≤ 281474976710656) (hG : Glob w) :
    Calls Tryd.prog 40 #[.agg C, vn, .int .i64 32] w (StreamP w key name 32) := by
  subst hC
  exact stream key name vn 32 (by omega) w hk lk hv ln hG
set_option maxRecDepth 100000 in
set_option maxHeartbeats 8000000 in
theorem derive (key name : List Int) (num : Int) (hnum : 0 ≤ num ∧ num ≤ 18446744073709551615) (w : World) (hk : Byt key) (lk : key.length = 32) (hv : Byt name) (ln : name.length ≤ 900) (hG : Glob w) :
    Calls Tryd.prog 28 #[.agg (bcells key), .string (strOfNums name), .int .u64 num] w fun e w' => e = .returned (.agg (bcells (strm key (name ++ be 8 num) 32))) ∧ Below w.heap.size w w' := by
  have z48 : ∀ w, (zeroValue 48).run Tryd.prog w = .ok (.agg (bcells (List.replicate 32 0))) w := fun _ => by kernel_rfl
  obtain ⟨Z48, hZ⟩ : ∃ Z, Z = bcells (List.replicate 32 0) := ⟨_, rfl⟩
  rw [← hZ] at z48
  have h2w : 2 ≤ w.heap.size := by have := hG.lt; omega
  obtain ⟨CK, hCK⟩ : ∃ C, C = bcells key := ⟨_, rfl⟩
  have ik := i48' key lk
  rw [← hCK] at ik ⊢
  obtain ⟨DD, hDD⟩ : ∃ D, D = strm key (name ++ be 8 num) 32 := ⟨_, rfl⟩
  rw [← hDD]
  have HDD := Lib.hid hDD
  have IK := Lib.hid ik
  have sk := key_all
  obtain ⟨W0, hW0⟩ : ∃ W0, W0 = (((w.alloc (.cells CK 48)).alloc (.cells Z48 48)).alloc (.cells Z48 48)) := ⟨_, rfl⟩
  have g0 : W0.heap[w.heap.size]? = some (.cells CK 48 (0, 0)) := by
    rw [hW0, Below.heap_alloc _ _ _ (by simp; omega), Below.heap_alloc _ _ _ (by simp)]; exact heap_alloc_new w _
  have g1 : W0.heap[w.heap.size + 1]? = some (.cells Z48 48 (0, 0)) := by
    rw [hW0, Below.heap_alloc _ _ _ (by simp)]; exact heap_alloc2_new w _ _
  have g2 : W0.heap[w.heap.size + 1 + 1]? = some (.cells Z48 48 (0, 0)) := by
    have := heap_alloc_new ((w.alloc (.cells CK 48)).alloc (.cells Z48 48)) (.cells Z48 48)
    rw [hW0]; simpa using this
  have b0 : Below w.heap.size w W0 := by rw [hW0]; exact (((Below.refl _ _).alloc (Nat.le_refl _) _).alloc (by simp) _).alloc (by simp; omega) _
  have hsz0 : w.heap.size + 2 + 1 ≤ W0.heap.size := by rw [hW0]; simp
  have SK0 : Hid (SK w CK Z48 W0) := ⟨b0, g0, g1⟩
  have T7 := Lib.hid g2
  have HZ := Lib.hid hZ
  have HKB := Lib.hid hk
  have HKL := Lib.hid lk
  have HVN := Lib.hid hv
  have HGL := Lib.hid hG
  have H2W := Lib.hid h2w
  have HSZ0 := Lib.hid hsz0
  have HCK := Lib.hid hCK
  have HW0 := Lib.hid hW0
  obtain ⟨n0, n1⟩ := hnum
  clear hZ hk lk hv hG h2w g0 g1 g2 b0 hsz0 hCK hW0 ik hDD
  go_enter Tryd.func28, Tryd.ntmps28
  go_wp2_with fail
  rw [← HW0.out]
  have hsz : w.heap.size + 2 ≤ W0.heap.size := by have := HSZ0.out; omega
  have hsz3 : w.heap.size + 1 + 1 < W0.heap.size := by have := HSZ0.out; omega
  refine wp_region_held_drew (S := SK w CK Z48) (by kernel_rfl) (SK0.out.step (Below.refl _ _).drew hsz) (fun hS => ?_)
  have hB0 : Below W0.heap.size W0 W0.drew := (Below.refl _ _).drew
  refine' wpAnyH_take (i := 0) ?h1x0p ?hsx0p ?hfx0p ?hrx0p ?hQx0p (Or.inl ⟨?hwx0p, ?hyx0p⟩) hS ?restx0p
  case h1x0p => (simp only [List.getElem?_toArray, List.getElem?_cons_zero]; rfl)
  case hsx0p => kernel_rfl
  case hfx0p => kernel_rfl
  case hrx0p => kernel_rfl
  case hQx0p => exact fun _ _ _ h => h
  case hwx0p => rfl
  case hyx0p =>
    intro W hW
    go_simp
    try with_reducible rfl
  simp only [Act.put, List.setIfInBounds_toArray, List.set_cons_succ, List.set_cons_zero]
  refine' wpAnyH_take (i := 2) ?h1x2p ?hsx2p ?hfx2p ?hrx2p ?hQx2p (Or.inl ⟨?hwx2p, ?hyx2p⟩) hS ?restx2p
  case h1x2p => (simp only [List.getElem?_toArray, List.getElem?_cons_succ, List.getElem?_cons_zero]; rfl)
  case hsx2p => kernel_rfl
  case hfx2p => kernel_rfl
  case hrx2p => kernel_rfl
  case hQx2p => exact fun _ _ _ h => h
  case hwx2p => rfl
  case hyx2p =>
    intro W hW
    go_simp
    try with_reducible rfl
  simp only [Act.put, List.setIfInBounds_toArray, List.set_cons_succ, List.set_cons_zero]
  refine' wpAnyH_take (i := 4) ?h1x4p ?hsx4p ?hfx4p ?hrx4p ?hQx4p (Or.inl ⟨?hwx4p, ?hyx4p⟩) hS ?restx4p
  case h1x4p => (simp only [List.getElem?_toArray, List.getElem?_cons_succ, List.getElem?_cons_zero]; rfl)
  case hsx4p => kernel_rfl
  case hfx4p => kernel_rfl
  case hrx4p => kernel_rfl
  case hQx4p => exact fun _ _ _ h => h
  case hwx4p => rfl
  case hyx4p =>
    intro W hW
    go_simp
    try with_reducible rfl
  simp only [Act.put, List.setIfInBounds_toArray, List.set_cons_succ, List.set_cons_zero]
  refine' wpAnyH_take (i := 1) ?h1x1p ?hsx1p ?hfx1p ?hrx1p ?hQx1p (yieldsIf_load_mid ?hwx1p 48 (.tmp 3) ?hopx1p w.heap.size 0 rfl CK.toList _ (fun W hW => hW.range) Tryd.underlying48 rfl ?hix1p) hS ?restx1p
  case h1x1p => (simp only [List.getElem?_toArray, List.getElem?_cons_succ, List.getElem?_cons_zero]; rfl)
  case hopx1p => rfl
  case hsx1p => kernel_rfl
  case hfx1p => kernel_rfl
  case hrx1p => kernel_rfl
  case hQx1p => exact fun _ _ _ h => h
  case hwx1p => rfl
  case hix1p => exact (by rw [Array.length_toList]; exact IK.out)
  simp only [Act.put, List.setIfInBounds_toArray, List.set_cons_succ, List.set_cons_zero]
  refine wpAnyH_ready (rs := [3, 5]) (by kernel_rfl) (by simp) ?_
  refine' AllReadyH.cons ?hoc3p (fun K hK => ?stc3p) (AllReadyH.cons ?hoc5p (fun K hK => ?stc5p) AllReadyH.nil)
  case hoc3p => (simp only [List.getElem?_toArray, List.getElem?_cons_succ, List.getElem?_cons_zero]; rfl)
  case hoc5p => (simp only [List.getElem?_toArray, List.getElem?_cons_succ, List.getElem?_cons_zero]; rfl)
  case stc3p =>
    obtain ⟨v1, w1, r1, s1, b1⟩ := conv_str W0.drew name HVN.out (by omega)
    have hS1 := hS.step (base := W0.drew.heap.size) b1 (Nat.le_trans hsz hB0.size)
    refine step_conv_run rfl (.tmp 10) 9 22 rfl rfl r1 ?_
    refine hK.out _ _ hS1 (fun hHeld => ?_)
    clear hK K
    try simp only [Act.put, List.setIfInBounds_toArray, List.set_cons_succ, List.set_cons_zero]
    have hB1 : Below W0.heap.size W0 w1 := hB0.trans (b1.mono hB0.size)
    clear hS hHeld r1
    refine wpAnyH_ready (rs := [5]) (by kernel_rfl) (by simp) ?_
    refine' AllReadyH.cons ?hoc5a (fun K hK => ?stc5a) AllReadyH.nil
    case hoc5a => (simp only [List.getElem?_toArray, List.getElem?_cons_succ, List.getElem?_cons_zero]; rfl)
    go_simp
    refine (putb64 num n0 n1 _).mono ?_
    rintro e w2 ⟨g2, rfl, s2, b2, _⟩
    go_wp2_with fail
    have hS2 := hS1.step (base := w1.heap.size) b2 (Nat.le_trans hsz hB1.size)
    refine hK.out _ _ hS2 (fun hHeld => ?_)
    clear hK K
    try simp only [Act.put, List.setIfInBounds_toArray, List.set_cons_succ, List.set_cons_zero]
    have hB2 : Below W0.heap.size W0 w2 := hB1.trans (b2.mono hB1.size)
    clear hS1 hHeld
    have sA := s1.below b2
    have sB := s2
    have hBle : W0.heap.size ≤ W0.drew.heap.size := hB0.size
    have hBase : W0.drew.heap.size ≤ w2.heap.size := Nat.le_trans b1.size b2.size
    obtain ⟨x3, c3, w3, r3, s3, b3⟩ := app_str sA sB (by rw [be_len]; omega) (by intro e; have := congrArg List.length e; rw [be_len] at this; simp at this) hBase
    have hS3 := hS2.step b3 (Nat.le_trans hsz hBle)
    have hB3 : Below W0.heap.size W0 w3 := hB2.trans (b3.mono hBle)
    refine wpAnyH_ready (rs := [6]) (by kernel_rfl) (by simp) ?_
    refine' AllReadyH.cons ?hoc6a (fun K hK => ?stc6a) AllReadyH.nil
    case hoc6a => (simp only [List.getElem?_toArray, List.getElem?_cons_succ, List.getElem?_cons_zero]; rfl)
    refine step_app_run rfl (.tmp 11) (.tmp 13) 22 rfl rfl rfl rfl r3 ?_
    refine hK.out _ _ hS3 (fun hHeld => ?_)
    clear hK K
    try simp only [Act.put, List.setIfInBounds_toArray, List.set_cons_succ, List.set_cons_zero]
    clear hHeld hS2
    refine wpAnyH_ready (rs := [7]) (by kernel_rfl) (by simp) ?_
    refine' AllReadyH.cons ?hoc7a (fun K hK => ?stc7a) AllReadyH.nil
    case hoc7a => (simp only [List.getElem?_toArray, List.getElem?_cons_succ, List.getElem?_cons_zero]; rfl)
    go_simp
    refine (stream32 key (name ++ be 8 num) _ w3 _ (by simpa using HCK.out) HKB.out HKL.out s3 (by rw [List.length_append, be_len]; omega) (HGL.out.below hS3.1 H2W.out)).mono ?_
    rintro e w4 ⟨q4, c4, rfl, ho4, b4⟩
    go_wp2_with fail
    have hS4 := hS3.step (base := w3.heap.size) b4 (Nat.le_trans hsz hB3.size)
    refine hK.out _ _ hS4 (fun hHeld => ?_)
    clear hK K
    try simp only [Act.put, List.setIfInBounds_toArray, List.set_cons_succ, List.set_cons_zero]
    clear hHeld
    have hB4 : Below W0.heap.size W0 w4 := hB3.trans (b4.mono hB3.size)
    have row4 : w4.heap[w.heap.size + 1 + 1]? = some (.cells (bcells (List.replicate 32 0)) 48 (0, 0)) := by rw [hB4.block _ hsz3, ← HZ.out]; exact T7.out
    have lD := strm_len key (name ++ be 8 num) HKB.out 32 (by omega)
    have hoD := ho4.sees
    rw [← HDD.out] at lD hoD
    have cp := copy_sees (xs := DD) (v := .slice q4 32 c4) (W := w4) hoD (w.heap.size + 1 + 1) 32 (List.replicate 32 0) 48 row4 (by simp) (by omega)
    rw [lD, show DD ++ (List.replicate 32 (0 : Int)).drop 32 = DD by simp] at cp
    have hS5 := hS4.row (w.heap.size + 1 + 1) (by omega) (bcells (DD))
    have row5 := setRow_heap w4 (w.heap.size + 1 + 1) (bcells (List.replicate 32 0)) (bcells (DD)) 48 (0, 0) row4
    refine wpAnyH_ready (rs := [8]) (by kernel_rfl) (by simp) ?_
    refine' AllReadyH.cons ?hoc8a (fun K hK => ?stc8a) AllReadyH.nil
    case hoc8a => (simp only [List.getElem?_toArray, List.getElem?_cons_succ, List.getElem?_cons_zero]; rfl)
    refine step_copy_run rfl (.tmp 8) (.tmp 15) 22 22 rfl rfl rfl rfl cp ?_
    refine hK.out _ _ hS5 (fun hHeld => ?_)
    clear hK K
    try simp only [Act.put, List.setIfInBounds_toArray, List.set_cons_succ, List.set_cons_zero]
    clear hHeld
    refine wpAnyH_done (by kernel_rfl) ?_ _
    have ID := Lib.hid (i48' _ lD)
    have OD := Lib.hid (bone (DD))
    have SD : Hid (Z48.size = (bcells (DD)).size) := by show _ = _; rw [HZ.out, bsize, bsize, lD, List.length_replicate]
    clear cp lD row4 hS4 hS3 hB3 hB4 s3 r3 b3 b4 ho4 hoD
    generalize w4.setRow (w.heap.size + 1 + 1) (bcells (DD)) = w5 at hS5 row5 ⊢
    have R5 := Lib.hid row5
    have G6 := Lib.hid hS5.2.2
    have B5 := Lib.hid hS5.1
    clear row5 hS5 sA sB hBase hBle
    go_wp2_with (first
      | (refine wpList_load_row rfl 48 (.tmp 7) rfl (w.heap.size + 1 + 1) rfl 48 (bcells DD) (0, 0) _ R5.out und48 rfl ID.out ?_)
      | (refine wpList_store_row rfl 48 (.tmp 6) (.tmp 17) rfl (w.heap.size + 1) (bcells DD) rfl rfl 48 Z48 G6.out ID.out SD.out OD.out ?_))
    refine bodyPost_ret (v := .agg (bcells DD)) (results_cell_row Tryd.results28 _ _ (w.heap.size + 1) 48 _ (0, 0) _ rfl (setRow_heap _ _ _ _ _ _ G6.out) Tryd.underlying48 rfl ID.out) rfl ⟨rfl, ?_⟩
    exact B5.out.trans (below_row _ _ (by omega))
  case stc5p =>
    go_simp
    refine (putb64 num n0 n1 _).mono ?_
    rintro e w2 ⟨g2, rfl, s2, b2, _⟩
    go_wp2_with fail
    have hS2 := hS.step (base := W0.drew.heap.size) b2 (Nat.le_trans hsz hB0.size)
    refine hK.out _ _ hS2 (fun hHeld => ?_)
    clear hK K
    try simp only [Act.put, List.setIfInBounds_toArray, List.set_cons_succ, List.set_cons_zero]
    have hB2 : Below W0.heap.size W0 w2 := hB0.trans (b2.mono hB0.size)
    clear hS hHeld
    refine wpAnyH_ready (rs := [3]) (by kernel_rfl) (by simp) ?_
    refine' AllReadyH.cons ?hoc3b (fun K hK => ?stc3b) AllReadyH.nil
    case hoc3b => (simp only [List.getElem?_toArray, List.getElem?_cons_succ, List.getElem?_cons_zero]; rfl)
    obtain ⟨v1, w1, r1, s1, b1⟩ := conv_str w2 name HVN.out (by omega)
    have hS1 := hS2.step (base := w2.heap.size) b1 (Nat.le_trans hsz hB2.size)
    refine step_conv_run rfl (.tmp 10) 9 22 rfl rfl r1 ?_
    refine hK.out _ _ hS1 (fun hHeld => ?_)
    clear hK K
    try simp only [Act.put, List.setIfInBounds_toArray, List.set_cons_succ, List.set_cons_zero]
    have hB1 : Below W0.heap.size W0 w1 := hB2.trans (b1.mono hB2.size)
    clear hS2 hHeld r1
    have sA := s1
    have sB := s2.below b1
    have hBle : W0.heap.size ≤ w2.heap.size := hB2.size
    have hBase : w2.heap.size ≤ w1.heap.size := b1.size
    obtain ⟨x3, c3, w3, r3, s3, b3⟩ := app_str sA sB (by rw [be_len]; omega) (by intro e; have := congrArg List.length e; rw [be_len] at this; simp at this) hBase
    have hS3 := hS1.step b3 (Nat.le_trans hsz hBle)
    have hB3 : Below W0.heap.size W0 w3 := hB1.trans (b3.mono hBle)
    refine wpAnyH_ready (rs := [6]) (by kernel_rfl) (by simp) ?_
    refine' AllReadyH.cons ?hoc6b (fun K hK => ?stc6b) AllReadyH.nil
    case hoc6b => (simp only [List.getElem?_toArray, List.getElem?_cons_succ, List.getElem?_cons_zero]; rfl)
    refine step_app_run rfl (.tmp 11) (.tmp 13) 22 rfl rfl rfl rfl r3 ?_
    refine hK.out _ _ hS3 (fun hHeld => ?_)
    clear hK K
    try simp only [Act.put, List.setIfInBounds_toArray, List.set_cons_succ, List.set_cons_zero]
    clear hHeld hS1
    refine wpAnyH_ready (rs := [7]) (by kernel_rfl) (by simp) ?_
    refine' AllReadyH.cons ?hoc7b (fun K hK => ?stc7b) AllReadyH.nil
    case hoc7b => (simp only [List.getElem?_toArray, List.getElem?_cons_succ, List.getElem?_cons_zero]; rfl)
    go_simp
    refine (stream32 key (name ++ be 8 num) _ w3 _ (by simpa using HCK.out) HKB.out HKL.out s3 (by rw [List.length_append, be_len]; omega) (HGL.out.below hS3.1 H2W.out)).mono ?_
    rintro e w4 ⟨q4, c4, rfl, ho4, b4⟩
    go_wp2_with fail
    have hS4 := hS3.step (base := w3.heap.size) b4 (Nat.le_trans hsz hB3.size)
    refine hK.out _ _ hS4 (fun hHeld => ?_)
    clear hK K
    try simp only [Act.put, List.setIfInBounds_toArray, List.set_cons_succ, List.set_cons_zero]
    clear hHeld
    have hB4 : Below W0.heap.size W0 w4 := hB3.trans (b4.mono hB3.size)
    have row4 : w4.heap[w.heap.size + 1 + 1]? = some (.cells (bcells (List.replicate 32 0)) 48 (0, 0)) := by rw [hB4.block _ hsz3, ← HZ.out]; exact T7.out
    have lD := strm_len key (name ++ be 8 num) HKB.out 32 (by omega)
    have hoD := ho4.sees
    rw [← HDD.out] at lD hoD
    have cp := copy_sees (xs := DD) (v := .slice q4 32 c4) (W := w4) hoD (w.heap.size + 1 + 1) 32 (List.replicate 32 0) 48 row4 (by simp) (by omega)
    rw [lD, show DD ++ (List.replicate 32 (0 : Int)).drop 32 = DD by simp] at cp
    have hS5 := hS4.row (w.heap.size + 1 + 1) (by omega) (bcells (DD))
    have row5 := setRow_heap w4 (w.heap.size + 1 + 1) (bcells (List.replicate 32 0)) (bcells (DD)) 48 (0, 0) row4
    refine wpAnyH_ready (rs := [8]) (by kernel_rfl) (by simp) ?_
    refine' AllReadyH.cons ?hoc8b (fun K hK => ?stc8b) AllReadyH.nil
    case hoc8b => (simp only [List.getElem?_toArray, List.getElem?_cons_succ, List.getElem?_cons_zero]; rfl)
    refine step_copy_run rfl (.tmp 8) (.tmp 15) 22 22 rfl rfl rfl rfl cp ?_
    refine hK.out _ _ hS5 (fun hHeld => ?_)
    clear hK K
    try simp only [Act.put, List.setIfInBounds_toArray, List.set_cons_succ, List.set_cons_zero]
    clear hHeld
    refine wpAnyH_done (by kernel_rfl) ?_ _
    have ID := Lib.hid (i48' _ lD)
    have OD := Lib.hid (bone (DD))
    have SD : Hid (Z48.size = (bcells (DD)).size) := by show _ = _; rw [HZ.out, bsize, bsize, lD, List.length_replicate]
    clear cp lD row4 hS4 hS3 hB3 hB4 s3 r3 b3 b4 ho4 hoD
    generalize w4.setRow (w.heap.size + 1 + 1) (bcells (DD)) = w5 at hS5 row5 ⊢
    have R5 := Lib.hid row5
    have G6 := Lib.hid hS5.2.2
    have B5 := Lib.hid hS5.1
    clear row5 hS5 sA sB hBase hBle
    go_wp2_with (first
      | (refine wpList_load_row rfl 48 (.tmp 7) rfl (w.heap.size + 1 + 1) rfl 48 (bcells DD) (0, 0) _ R5.out und48 rfl ID.out ?_)
      | (refine wpList_store_row rfl 48 (.tmp 6) (.tmp 17) rfl (w.heap.size + 1) (bcells DD) rfl rfl 48 Z48 G6.out ID.out SD.out OD.out ?_))
    refine bodyPost_ret (v := .agg (bcells DD)) (results_cell_row Tryd.results28 _ _ (w.heap.size + 1) 48 _ (0, 0) _ rfl (setRow_heap _ _ _ _ _ _ G6.out) Tryd.underlying48 rfl ID.out) rfl ⟨rfl, ?_⟩
    exact B5.out.trans (below_row _ _ (by omega))
end Go.Proofs.YtmkaagiabafooaaDoor
