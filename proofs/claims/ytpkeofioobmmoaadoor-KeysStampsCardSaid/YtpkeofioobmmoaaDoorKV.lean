/-
  The contracts of keys.Volume, seal.Seal and seal.Open. Condition: none.
-/
import Derived.Test.YtpkeofioobmmoaaDoorKL
namespace Go.Proofs.YtpkeofioobmmoaaDoor
open Go.RowKit Go.Proofs.YtpkeofioobmmoaaDoor.ae
/-- A volume's keys. -/
def vone (m : List Nat) (n : Nat) : List Nat := derN m nOne n
def vtwo (m : List Nat) (n : Nat) : List Nat := derN m nTwo n
theorem vone_bts {m : List Nat} (n : Nat) (hm : ae.Bts 32 m) : ae.Bts 32 (vone m n) := derN_bts _ _ hm.2
theorem vtwo_bts {m : List Nat} (n : Nat) (hm : ae.Bts 32 m) : ae.Bts 32 (vtwo m n) := derN_bts _ _ hm.2
set_option maxRecDepth 100000 in
set_option maxHeartbeats 4000000 in
theorem volume (m : List Nat) (hm : ae.Bts 32 m) (n : Nat) (hn : n ≤ 18446744073709551615) (w : World) (hG : sh.Glob w) :
    Calls Tryd.prog 49 #[.agg (ncells m), .int .u64 n] w fun e w' => e = .returned (.tuple #[.agg (ncells (vone m n)), .agg (ncells (vtwo m n))]) ∧ Below w.heap.size w w' := by
  have z38 := ae.zero23
  obtain ⟨Z, hZ⟩ : ∃ Z, Z = ncells (zeros 32) := ⟨_, rfl⟩
  rw [← hZ] at z38
  have ZL : Hid (∀ l : List Nat, l.length = 32 → Z.size = (ncells l).size) := fun l hl => by rw [hZ]; exact z23 hl
  have LM := Lib.hid hm.1
  have LC := Lib.hid (vone_bts n hm).1
  have LW := Lib.hid (vtwo_bts n hm).1
  have h2w : 2 ≤ w.heap.size := by have := hG.lt; omega
  have D1 : Hid (∀ (W : World), sh.Glob W → Calls Tryd.prog 42 #[.agg (ncells m), .string ⟨#[111, 110, 101]⟩, .int .u64 n] W fun e w' => e = .returned (.agg (ncells (vone m n))) ∧ Below W.heap.size W w') :=
    fun W hg => deriveC _ nOne n hn W hm nOne_byt (by decide) hg _ (by kernel_rfl)
  have D2 : Hid (∀ (W : World), sh.Glob W → Calls Tryd.prog 42 #[.agg (ncells m), .string ⟨#[116, 119, 111]⟩, .int .u64 n] W fun e w' => e = .returned (.agg (ncells (vtwo m n))) ∧ Below W.heap.size W w') :=
    fun W hg => deriveC _ nTwo n hn W hm nTwo_byt (by decide) hg _ (by kernel_rfl)
  obtain ⟨W0, hW0⟩ : ∃ W0, W0 = ((w.alloc (.cells (ncells m) 38)).alloc (.cells Z 38)).alloc (.cells Z 38) := ⟨_, rfl⟩
  have b1 : Below w.heap.size w (w.alloc (.cells (ncells m) 38)) := (Below.refl _ _).alloc (Nat.le_refl _) _
  have b2 := b1.alloc (by simp) (.cells Z 38)
  have b3 := b2.alloc (by simp <;> omega) (.cells Z 38)
  have HB : Hid (Below w.heap.size w W0) := by rw [hW0]; exact b3
  have G0 : Hid (W0.heap[w.heap.size]? = some (.cells (ncells m) 38 (0, 0))) := by
    show _ = _
    rw [hW0, Below.heap_alloc _ _ _ (by simp <;> omega), Below.heap_alloc _ _ _ (by simp)]; exact heap_alloc_new w _
  have G1 : Hid (W0.heap[w.heap.size + 1]? = some (.cells Z 38 (0, 0))) := by
    show _ = _
    rw [hW0, Below.heap_alloc _ _ _ (by simp <;> omega)]; exact heap_alloc2_new w _ _
  have G2 : Hid (W0.heap[w.heap.size + 1 + 1]? = some (.cells Z 38 (0, 0))) := by
    show _ = _
    have := heap_alloc_new ((w.alloc (.cells (ncells m) 38)).alloc (.cells Z 38)) (.cells Z 38)
    rw [hW0]
    simpa using this
  have HG := Lib.hid (hG.below b3 h2w)
  rw [← hW0] at HG
  have HW0 := Lib.hid hW0
  clear hW0 b1 b2 b3 hm hG hZ hn
  generalize vone m n = CK at LC D1 ⊢
  generalize vtwo m n = WK at LW D2 ⊢
  go_enter Tryd.func49, Tryd.ntmps49
  go_wp2_with fail
  rw [← HW0.out]
  refine wp_region_held_drew (S := fun W => Below w.heap.size w W ∧ W.heap[w.heap.size]? = some (.cells (ncells m) 38 (0, 0))) (by kernel_rfl) (⟨HB.out.drew, G0.out⟩) (fun hS => ?_)
  have hb0 : Below W0.heap.size W0 W0.drew := (Below.refl _ _).drew
  have qG1 := (hb0.block _ (blk_lt G1.out)).trans G1.out
  have qG2 := (hb0.block _ (blk_lt G2.out)).trans G2.out
  have qHG := HG.out.below hb0 HG.out.lt
  clear hb0 G1 G2 HG
  generalize W0.drew = Wbs at hS qG1 qG2 qHG ⊢
  have G1 := Lib.hid qG1
  have G2 := Lib.hid qG2
  have HG := Lib.hid qHG
  clear qG1 qG2 qHG
  refine' wpAnyH_take (i := 0) ?h1x0b ?hsx0b ?hfx0b ?hrx0b ?hQx0b (yieldsIf_load_at ?hwx0b 38 (.tmp 2) ?hopx0b w.heap.size 0 rfl (ncells m) _ (fun W hW => range_row hW.2) Tryd.underlying38 rfl ?hix0b) hS ?restx0b
  case h1x0b => (simp only [List.getElem?_toArray, List.getElem?_cons_zero]; rfl)
  case hopx0b => rfl
  case hsx0b => kernel_rfl
  case hfx0b => kernel_rfl
  case hrx0b => kernel_rfl
  case hQx0b => exact fun _ _ _ h => h
  case hwx0b => rfl
  case hix0b => exact (i23 LM.out)
  simp only [Act.put, List.setIfInBounds_toArray, List.set_cons_succ, List.set_cons_zero]
  refine' wpAnyH_take (i := 1) ?h1x1b ?hsx1b ?hfx1b ?hrx1b ?hQx1b (Or.inl ⟨?hwx1b, ?hyx1b⟩) hS ?restx1b
  case h1x1b => (simp only [List.getElem?_toArray, List.getElem?_cons_succ, List.getElem?_cons_zero]; rfl)
  case hsx1b => kernel_rfl
  case hfx1b => kernel_rfl
  case hrx1b => kernel_rfl
  case hQx1b => exact fun _ _ _ h => h
  case hwx1b => rfl
  case hyx1b =>
    intro W hW
    go_simp
    try with_reducible rfl
  simp only [Act.put, List.setIfInBounds_toArray, List.set_cons_succ, List.set_cons_zero]
  refine' wpAnyH_take (i := 3) ?h1x3b ?hsx3b ?hfx3b ?hrx3b ?hQx3b (yieldsIf_load_at ?hwx3b 38 (.tmp 2) ?hopx3b w.heap.size 0 rfl (ncells m) _ (fun W hW => range_row hW.2) Tryd.underlying38 rfl ?hix3b) hS ?restx3b
  case h1x3b => (simp only [List.getElem?_toArray, List.getElem?_cons_succ, List.getElem?_cons_zero]; rfl)
  case hopx3b => rfl
  case hsx3b => kernel_rfl
  case hfx3b => kernel_rfl
  case hrx3b => kernel_rfl
  case hQx3b => exact fun _ _ _ h => h
  case hwx3b => rfl
  case hix3b => exact (i23 LM.out)
  simp only [Act.put, List.setIfInBounds_toArray, List.set_cons_succ, List.set_cons_zero]
  refine' wpAnyH_take (i := 4) ?h1x4b ?hsx4b ?hfx4b ?hrx4b ?hQx4b (Or.inl ⟨?hwx4b, ?hyx4b⟩) hS ?restx4b
  case h1x4b => (simp only [List.getElem?_toArray, List.getElem?_cons_succ, List.getElem?_cons_zero]; rfl)
  case hsx4b => kernel_rfl
  case hfx4b => kernel_rfl
  case hrx4b => kernel_rfl
  case hQx4b => exact fun _ _ _ h => h
  case hwx4b => rfl
  case hyx4b =>
    intro W hW
    go_simp
    try with_reducible rfl
  simp only [Act.put, List.setIfInBounds_toArray, List.set_cons_succ, List.set_cons_zero]
  refine wpAnyH_ready (rs := [2]) (by kernel_rfl) (by simp) ?_
  refine' (AllReadyH.cons ?hoc2b (fun K hK => ?stc2b) AllReadyH.nil)
  case hoc2b => (simp only [List.getElem?_toArray, List.getElem?_cons_succ, List.getElem?_cons_zero]; rfl)
  go_simp
  refine (D1.out Wbs HG.out).mono ?_
  rintro e Wbx2 ⟨rfl, hb⟩
  have G1 := Lib.hid ((hb.block _ (blk_lt G1.out)).trans G1.out)
  have G2 := Lib.hid ((hb.block _ (blk_lt G2.out)).trans G2.out)
  have HG := Lib.hid (HG.out.below hb HG.out.lt)
  go_wp2_with fail
  refine hK.out _ _ (⟨hS.1.trans (hb.mono hS.1.size), (hb.block _ (blk_lt hS.2)).trans hS.2⟩) (fun hHeld => ?_)
  clear hK K
  try simp only [Act.put, List.setIfInBounds_toArray, List.set_cons_succ, List.set_cons_zero]
  clear hS
  have hS := hHeld
  clear hHeld
  clear hb
  refine wpAnyH_ready (rs := [5]) (by kernel_rfl) (by simp) ?_
  refine' (AllReadyH.cons ?hoc5bx2 (fun K hK => ?stc5bx2) AllReadyH.nil)
  case hoc5bx2 => (simp only [List.getElem?_toArray, List.getElem?_cons_succ, List.getElem?_cons_zero]; rfl)
  go_simp
  refine (D2.out Wbx2 HG.out).mono ?_
  rintro e Wbx2x5 ⟨rfl, hb⟩
  have G1 := Lib.hid ((hb.block _ (blk_lt G1.out)).trans G1.out)
  have G2 := Lib.hid ((hb.block _ (blk_lt G2.out)).trans G2.out)
  have HG := Lib.hid (HG.out.below hb HG.out.lt)
  go_wp2_with fail
  refine hK.out _ _ (⟨hS.1.trans (hb.mono hS.1.size), (hb.block _ (blk_lt hS.2)).trans hS.2⟩) (fun hHeld => ?_)
  clear hK K
  try simp only [Act.put, List.setIfInBounds_toArray, List.set_cons_succ, List.set_cons_zero]
  clear hS
  have hS := hHeld
  clear hHeld
  clear hb
  refine wpAnyH_ready (rs := [6]) (by kernel_rfl) (by simp) ?_
  refine' (AllReadyH.cons ?hoc6bx2x5 (fun K hK => ?stc6bx2x5) AllReadyH.nil)
  case hoc6bx2x5 => (simp only [List.getElem?_toArray, List.getElem?_cons_succ, List.getElem?_cons_zero]; rfl)
  refine step_store_row rfl 38 (.tmp 4) (.tmp 8) rfl (w.heap.size + 1) (ncells CK) rfl rfl 38 _ G1.out (i23 LC.out) (ZL.out _ LC.out) (none_ _) ?_
  refine hK.out _ _ (⟨hS.1.trans (below_row _ _ (by omega)), by rw [setRow_other _ _ _ _ (show w.heap.size ≠ (w.heap.size + 1) from (by omega))]; exact hS.2⟩) (fun hHeld => ?_)
  clear hK K
  simp only [Act.put]
  have qG1 := setRow_heap _ (w.heap.size + 1) _ (ncells CK) _ _ G1.out
  have qG2 := (setRow_other _ _ _ (ncells CK) (show (w.heap.size + 1 + 1) ≠ (w.heap.size + 1) from (by omega))).trans G2.out
  have qHG := HG.out.below (below_row (B := 2) _ (ncells CK) (by omega)) (Nat.le_refl _)
  clear hS
  have hS := hHeld
  clear hHeld
  clear G1 G2 HG
  generalize Wbx2x5.setRow (w.heap.size + 1) (ncells CK) = Wbx2x5x6 at *
  have G1 := Lib.hid qG1
  have G2 := Lib.hid qG2
  have HG := Lib.hid qHG
  clear qG1 qG2 qHG
  refine wpAnyH_ready (rs := [7]) (by kernel_rfl) (by simp) ?_
  refine' (AllReadyH.cons ?hoc7bx2x5x6 (fun K hK => ?stc7bx2x5x6) AllReadyH.nil)
  case hoc7bx2x5x6 => (simp only [List.getElem?_toArray, List.getElem?_cons_succ, List.getElem?_cons_zero]; rfl)
  refine step_store_row rfl 38 (.tmp 5) (.tmp 11) rfl (w.heap.size + 1 + 1) (ncells WK) rfl rfl 38 _ G2.out (i23 LW.out) (ZL.out _ LW.out) (none_ _) ?_
  refine hK.out _ _ (⟨hS.1.trans (below_row _ _ (by omega)), by rw [setRow_other _ _ _ _ (show w.heap.size ≠ (w.heap.size + 1 + 1) from (by omega))]; exact hS.2⟩) (fun hHeld => ?_)
  clear hK K
  simp only [Act.put]
  have qG2 := setRow_heap _ (w.heap.size + 1 + 1) _ (ncells WK) _ _ G2.out
  have qG1 := (setRow_other _ _ _ (ncells WK) (show (w.heap.size + 1) ≠ (w.heap.size + 1 + 1) from (by omega))).trans G1.out
  have qHG := HG.out.below (below_row (B := 2) _ (ncells WK) (by omega)) (Nat.le_refl _)
  clear hS
  have hS := hHeld
  clear hHeld
  clear G1 G2 HG
  generalize Wbx2x5x6.setRow (w.heap.size + 1 + 1) (ncells WK) = Wbx2x5x6x7 at *
  have G1 := Lib.hid qG1
  have G2 := Lib.hid qG2
  have HG := Lib.hid qHG
  clear qG1 qG2 qHG
  refine wpAnyH_done (by kernel_rfl) ?_ _
  go_wp2_with fail
  refine bodyPost_ret (v := .tuple #[.agg (ncells CK), .agg (ncells WK)]) (results_two_rows Tryd.results49 _ _ (w.heap.size + 1) (w.heap.size + 1 + 1) 38 _ _ (0, 0) (0, 0) _ rfl rfl G1.out G2.out Tryd.underlying38 rfl (i23 LC.out) (i23 LW.out)) rfl ⟨rfl, hS.1⟩
/-- A block, sealed, and opened. -/
def sealN (m : List Nat) (n s : Nat) (b : List Nat) : List Nat := sct (enc (vone m n)) (enc (vtwo m n) (twk s)) b 32
def openN (m : List Nat) (n s : Nat) (b : List Nat) : List Nat := sct (dec (vone m n)) (enc (vtwo m n) (twk s)) b 32

set_option maxRecDepth 100000 in
set_option maxHeartbeats 4000000 in
theorem sealTurn (m b : List Nat) (hm : ae.Bts 32 m) (n s : Nat) (hn : n ≤ 18446744073709551615) (x : Option Addr) (cap : Nat) (w : World) (hs : ae.Sees w (.slice x 512 cap) b) (hL : 512 = b.length) (hG : sh.Glob w) :
    Calls Tryd.prog 33 #[.func (.func 34) #[] #[], .agg (ncells m), .int .u64 n, .int .u64 s, .slice x 512 cap] w (SecP w 512 (sealN m n s b)) := by
  have VO : Hid (∀ W : World, sh.Glob W → Calls Tryd.prog 49 #[.agg (ncells m), .int .u64 n] W fun e w' => e = .returned (.tuple #[.agg (ncells (vone m n)), .agg (ncells (vtwo m n))]) ∧ Below W.heap.size W w') := fun W hg => volume m hm n hn W hg
  have NX : Hid (∀ W : World, Calls Tryd.prog 48 #[.agg (ncells (vone m n)), .agg (ncells (vtwo m n))] W (NewX W (flat (vone m n)) (flat (vtwo m n)))) := fun W => newX _ _ (vone_bts n hm) (vtwo_bts n hm) W
  have TW : Hid (∀ W : World, Calls Tryd.prog 50 #[.int .u64 s] W fun e w' => e = .returned (.agg (ncells (twk s))) ∧ Below W.heap.size W w') := fun W => tweakC s W
  have TX : Hid (∀ (g : Nat) (W : World), XIat W g (flat (vone m n)) (flat (vtwo m n)) → ae.Sees W (.slice x 512 cap) b → Calls Tryd.prog 34 #[.pointer (some ⟨g, 0, none⟩), .agg (ncells (twk s)), .slice x 512 cap] W (SecP W 512 (sealN m n s b))) :=
    fun g W h hv => turnX (vone m n) (vtwo m n) (twk s) b (vone_bts n hm) (vtwo_bts n hm) (twk_bts s) g 512 32 x cap W h hv hL rfl (by omega) (by omega)
  have LM := Lib.hid hm.1
  have HB : Hid (Below w.heap.size w (w.alloc (.cells (ncells m) 38))) := (Below.refl _ _).alloc (Nat.le_refl _) _
  have G0 := Lib.hid (heap_alloc_new w (.cells (ncells m) 38))
  have HG := Lib.hid (hG.below HB.out hG.lt)
  have HS := Lib.hid (hs.below HB.out)
  clear hm hs hL hG hn
  generalize sealN m n s b = J at TX ⊢
  generalize vone m n = K1 at VO NX TX
  generalize vtwo m n = K2 at VO NX TX
  generalize flat K1 = F1 at NX TX
  generalize flat K2 = F2 at NX TX
  generalize twk s = T at TW TX
  go_enter Tryd.func33, Tryd.ntmps33
  go_wp2_with (refine wpList_load_row rfl 38 (.tmp 6) rfl w.heap.size rfl 38 (ncells m) (0, 0) _ G0.out Tryd.underlying38 rfl (i23 LM.out) ?_)
  refine (VO.out _ HG.out).mono ?_
  rintro e w1 ⟨rfl, hb⟩
  have B1 := Lib.hid (HB.out.trans (hb.mono HB.out.size))
  have S1 := Lib.hid (HS.out.below hb)
  clear hb HB HS HG
  go_wp2_with fail
  refine (NX.out _).mono ?_
  rintro e w2 ⟨g, rfl, hx, hb⟩
  have B2 := Lib.hid (B1.out.trans (hb.mono B1.out.size))
  have S2 := Lib.hid (S1.out.below hb)
  have X2 := Lib.hid hx
  clear hb hx B1 S1
  go_wp2_with fail
  refine (TW.out _).mono ?_
  rintro e w3 ⟨rfl, hb⟩
  have B3 := Lib.hid (B2.out.trans (hb.mono B2.out.size))
  have S3 := Lib.hid (S2.out.below hb)
  have X3 := Lib.hid (X2.out.below hb)
  clear hb B2 S2 X2
  go_wp2_with fail
  refine (TX.out _ _ X3.out S3.out).mono ?_
  rintro e w4 ⟨q, rfl, hq, hr, hb⟩
  have B4 := Lib.hid (B3.out.trans (hb.mono B3.out.size))
  have Q4 := Lib.hid (Nat.le_trans B3.out.size hq)
  have R4 := Lib.hid hr
  clear hb hr hq B3
  go_wp2_with fail
  go_ret2
  exact ⟨q, rfl, Q4.out, R4.out, B4.out⟩
set_option maxRecDepth 100000 in
theorem sealTurnNo (m : List Nat) (n s : Nat) (x : Option Addr) (L cap : Nat) (hL : L ≠ 512) (w : World) :
    Calls Tryd.prog 33 #[.func (.func 34) #[] #[], .agg (ncells m), .int .u64 n, .int .u64 s, .slice x L cap] w fun e w' => e = .returned (.tuple #[.slice none 0 0, .int .i64 3]) ∧ Below w.heap.size w w' := by
  have hl : ((L : Int) != 512) = true := by simp; omega
  have HB : Hid (Below w.heap.size w (w.alloc (.cells (ncells m) 38))) := (Below.refl _ _).alloc (Nat.le_refl _) _
  clear hL
  go_enter Tryd.func33, Tryd.ntmps33
  go_wp2_with fail
  go_ret2
  exact ⟨rfl, HB.out⟩
set_option maxRecDepth 100000 in
set_option maxHeartbeats 4000000 in
theorem sealC (m b : List Nat) (hm : ae.Bts 32 m) (n s : Nat) (hn : n ≤ 18446744073709551615) (x : Option Addr) (cap : Nat) (w : World) (hs : ae.Sees w (.slice x 512 cap) b) (hL : 512 = b.length) (hG : sh.Glob w) :
    Calls Tryd.prog 22 #[.agg (ncells m), .int .u64 n, .int .u64 s, .slice x 512 cap] w (SecP w 512 (sealN m n s b)) := by
  have TX : Hid (∀ (W : World), sh.Glob W → ae.Sees W (.slice x 512 cap) b → Calls Tryd.prog 33 #[.func (.func 34) #[] #[], .agg (ncells m), .int .u64 n, .int .u64 s, .slice x 512 cap] W (SecP W 512 (sealN m n s b))) := fun W hg hv => sealTurn m b hm n s hn x cap W hv hL hg
  have LM := Lib.hid hm.1
  have HB : Hid (Below w.heap.size w (w.alloc (.cells (ncells m) 38))) := (Below.refl _ _).alloc (Nat.le_refl _) _
  have G0 := Lib.hid (heap_alloc_new w (.cells (ncells m) 38))
  have HG := Lib.hid (hG.below HB.out hG.lt)
  have HS := Lib.hid (hs.below HB.out)
  clear hm hs hL hG hn
  generalize sealN m n s b = J at TX ⊢
  go_enter Tryd.func22, Tryd.ntmps22
  go_wp2_with (refine wpList_load_row rfl 38 (.tmp 4) rfl w.heap.size rfl 38 (ncells m) (0, 0) _ G0.out Tryd.underlying38 rfl (i23 LM.out) ?_)
  refine (TX.out _ HG.out HS.out).mono ?_
  rintro e w1 ⟨q, rfl, hq, hr, hb⟩
  have B4 := Lib.hid (HB.out.trans (hb.mono HB.out.size))
  have Q4 := Lib.hid (Nat.le_trans HB.out.size hq)
  have R4 := Lib.hid hr
  clear hb hr hq
  go_wp2_with fail
  go_ret2
  exact ⟨q, rfl, Q4.out, R4.out, B4.out⟩
set_option maxRecDepth 100000 in
set_option maxHeartbeats 4000000 in
theorem sealNo (m : List Nat) (hm : ae.Bts 32 m) (n s : Nat) (x : Option Addr) (L cap : Nat) (hL : L ≠ 512) (w : World) :
    Calls Tryd.prog 22 #[.agg (ncells m), .int .u64 n, .int .u64 s, .slice x L cap] w fun e w' => e = .returned (.tuple #[.slice none 0 0, .int .i64 3]) ∧ Below w.heap.size w w' := by
  have TX : Hid (∀ (W : World), Calls Tryd.prog 33 #[.func (.func 34) #[] #[], .agg (ncells m), .int .u64 n, .int .u64 s, .slice x L cap] W fun e w' => e = .returned (.tuple #[.slice none 0 0, .int .i64 3]) ∧ Below W.heap.size W w') := fun W => sealTurnNo m n s x L cap hL W
  have LM := Lib.hid hm.1
  have HB : Hid (Below w.heap.size w (w.alloc (.cells (ncells m) 38))) := (Below.refl _ _).alloc (Nat.le_refl _) _
  have G0 := Lib.hid (heap_alloc_new w (.cells (ncells m) 38))
  clear hm hL
  go_enter Tryd.func22, Tryd.ntmps22
  go_wp2_with (refine wpList_load_row rfl 38 (.tmp 4) rfl w.heap.size rfl 38 (ncells m) (0, 0) _ G0.out Tryd.underlying38 rfl (i23 LM.out) ?_)
  refine (TX.out _).mono ?_
  rintro e w1 ⟨rfl, hb⟩
  have B4 := Lib.hid (HB.out.trans (hb.mono HB.out.size))
  clear hb
  go_wp2_with fail
  go_ret2
  exact ⟨rfl, B4.out⟩

set_option maxRecDepth 100000 in
set_option maxHeartbeats 4000000 in
theorem openTurn (m b : List Nat) (hm : ae.Bts 32 m) (n s : Nat) (hn : n ≤ 18446744073709551615) (x : Option Addr) (cap : Nat) (w : World) (hs : ae.Sees w (.slice x 512 cap) b) (hL : 512 = b.length) (hG : sh.Glob w) :
    Calls Tryd.prog 33 #[.func (.func 39) #[] #[], .agg (ncells m), .int .u64 n, .int .u64 s, .slice x 512 cap] w (SecP w 512 (openN m n s b)) := by
  have VO : Hid (∀ W : World, sh.Glob W → Calls Tryd.prog 49 #[.agg (ncells m), .int .u64 n] W fun e w' => e = .returned (.tuple #[.agg (ncells (vone m n)), .agg (ncells (vtwo m n))]) ∧ Below W.heap.size W w') := fun W hg => volume m hm n hn W hg
  have NX : Hid (∀ W : World, Calls Tryd.prog 48 #[.agg (ncells (vone m n)), .agg (ncells (vtwo m n))] W (NewX W (flat (vone m n)) (flat (vtwo m n)))) := fun W => newX _ _ (vone_bts n hm) (vtwo_bts n hm) W
  have TW : Hid (∀ W : World, Calls Tryd.prog 50 #[.int .u64 s] W fun e w' => e = .returned (.agg (ncells (twk s))) ∧ Below W.heap.size W w') := fun W => tweakC s W
  have TX : Hid (∀ (g : Nat) (W : World), XIat W g (flat (vone m n)) (flat (vtwo m n)) → ae.Sees W (.slice x 512 cap) b → Calls Tryd.prog 39 #[.pointer (some ⟨g, 0, none⟩), .agg (ncells (twk s)), .slice x 512 cap] W (SecP W 512 (openN m n s b))) :=
    fun g W h hv => backX (vone m n) (vtwo m n) (twk s) b (vone_bts n hm) (vtwo_bts n hm) (twk_bts s) g 512 32 x cap W h hv hL rfl (by omega) (by omega)
  have LM := Lib.hid hm.1
  have HB : Hid (Below w.heap.size w (w.alloc (.cells (ncells m) 38))) := (Below.refl _ _).alloc (Nat.le_refl _) _
  have G0 := Lib.hid (heap_alloc_new w (.cells (ncells m) 38))
  have HG := Lib.hid (hG.below HB.out hG.lt)
  have HS := Lib.hid (hs.below HB.out)
  clear hm hs hL hG hn
  generalize openN m n s b = J at TX ⊢
  generalize vone m n = K1 at VO NX TX
  generalize vtwo m n = K2 at VO NX TX
  generalize flat K1 = F1 at NX TX
  generalize flat K2 = F2 at NX TX
  generalize twk s = T at TW TX
  go_enter Tryd.func33, Tryd.ntmps33
  go_wp2_with (refine wpList_load_row rfl 38 (.tmp 6) rfl w.heap.size rfl 38 (ncells m) (0, 0) _ G0.out Tryd.underlying38 rfl (i23 LM.out) ?_)
  refine (VO.out _ HG.out).mono ?_
  rintro e w1 ⟨rfl, hb⟩
  have B1 := Lib.hid (HB.out.trans (hb.mono HB.out.size))
  have S1 := Lib.hid (HS.out.below hb)
  clear hb HB HS HG
  go_wp2_with fail
  refine (NX.out _).mono ?_
  rintro e w2 ⟨g, rfl, hx, hb⟩
  have B2 := Lib.hid (B1.out.trans (hb.mono B1.out.size))
  have S2 := Lib.hid (S1.out.below hb)
  have X2 := Lib.hid hx
  clear hb hx B1 S1
  go_wp2_with fail
  refine (TW.out _).mono ?_
  rintro e w3 ⟨rfl, hb⟩
  have B3 := Lib.hid (B2.out.trans (hb.mono B2.out.size))
  have S3 := Lib.hid (S2.out.below hb)
  have X3 := Lib.hid (X2.out.below hb)
  clear hb B2 S2 X2
  go_wp2_with fail
  refine (TX.out _ _ X3.out S3.out).mono ?_
  rintro e w4 ⟨q, rfl, hq, hr, hb⟩
  have B4 := Lib.hid (B3.out.trans (hb.mono B3.out.size))
  have Q4 := Lib.hid (Nat.le_trans B3.out.size hq)
  have R4 := Lib.hid hr
  clear hb hr hq B3
  go_wp2_with fail
  go_ret2
  exact ⟨q, rfl, Q4.out, R4.out, B4.out⟩
set_option maxRecDepth 100000 in
theorem openTurnNo (m : List Nat) (n s : Nat) (x : Option Addr) (L cap : Nat) (hL : L ≠ 512) (w : World) :
    Calls Tryd.prog 33 #[.func (.func 39) #[] #[], .agg (ncells m), .int .u64 n, .int .u64 s, .slice x L cap] w fun e w' => e = .returned (.tuple #[.slice none 0 0, .int .i64 3]) ∧ Below w.heap.size w w' := by
  have hl : ((L : Int) != 512) = true := by simp; omega
  have HB : Hid (Below w.heap.size w (w.alloc (.cells (ncells m) 38))) := (Below.refl _ _).alloc (Nat.le_refl _) _
  clear hL
  go_enter Tryd.func33, Tryd.ntmps33
  go_wp2_with fail
  go_ret2
  exact ⟨rfl, HB.out⟩
set_option maxRecDepth 100000 in
set_option maxHeartbeats 4000000 in
theorem openC (m b : List Nat) (hm : ae.Bts 32 m) (n s : Nat) (hn : n ≤ 18446744073709551615) (x : Option Addr) (cap : Nat) (w : World) (hs : ae.Sees w (.slice x 512 cap) b) (hL : 512 = b.length) (hG : sh.Glob w) :
    Calls Tryd.prog 24 #[.agg (ncells m), .int .u64 n, .int .u64 s, .slice x 512 cap] w (SecP w 512 (openN m n s b)) := by
  have TX : Hid (∀ (W : World), sh.Glob W → ae.Sees W (.slice x 512 cap) b → Calls Tryd.prog 33 #[.func (.func 39) #[] #[], .agg (ncells m), .int .u64 n, .int .u64 s, .slice x 512 cap] W (SecP W 512 (openN m n s b))) := fun W hg hv => openTurn m b hm n s hn x cap W hv hL hg
  have LM := Lib.hid hm.1
  have HB : Hid (Below w.heap.size w (w.alloc (.cells (ncells m) 38))) := (Below.refl _ _).alloc (Nat.le_refl _) _
  have G0 := Lib.hid (heap_alloc_new w (.cells (ncells m) 38))
  have HG := Lib.hid (hG.below HB.out hG.lt)
  have HS := Lib.hid (hs.below HB.out)
  clear hm hs hL hG hn
  generalize openN m n s b = J at TX ⊢
  go_enter Tryd.func24, Tryd.ntmps24
  go_wp2_with (refine wpList_load_row rfl 38 (.tmp 4) rfl w.heap.size rfl 38 (ncells m) (0, 0) _ G0.out Tryd.underlying38 rfl (i23 LM.out) ?_)
  refine (TX.out _ HG.out HS.out).mono ?_
  rintro e w1 ⟨q, rfl, hq, hr, hb⟩
  have B4 := Lib.hid (HB.out.trans (hb.mono HB.out.size))
  have Q4 := Lib.hid (Nat.le_trans HB.out.size hq)
  have R4 := Lib.hid hr
  clear hb hr hq
  go_wp2_with fail
  go_ret2
  exact ⟨q, rfl, Q4.out, R4.out, B4.out⟩
set_option maxRecDepth 100000 in
set_option maxHeartbeats 4000000 in
theorem openNo (m : List Nat) (hm : ae.Bts 32 m) (n s : Nat) (x : Option Addr) (L cap : Nat) (hL : L ≠ 512) (w : World) :
    Calls Tryd.prog 24 #[.agg (ncells m), .int .u64 n, .int .u64 s, .slice x L cap] w fun e w' => e = .returned (.tuple #[.slice none 0 0, .int .i64 3]) ∧ Below w.heap.size w w' := by
  have TX : Hid (∀ (W : World), Calls Tryd.prog 33 #[.func (.func 39) #[] #[], .agg (ncells m), .int .u64 n, .int .u64 s, .slice x L cap] W fun e w' => e = .returned (.tuple #[.slice none 0 0, .int .i64 3]) ∧ Below W.heap.size W w') := fun W => openTurnNo m n s x L cap hL W
  have LM := Lib.hid hm.1
  have HB : Hid (Below w.heap.size w (w.alloc (.cells (ncells m) 38))) := (Below.refl _ _).alloc (Nat.le_refl _) _
  have G0 := Lib.hid (heap_alloc_new w (.cells (ncells m) 38))
  clear hm hL
  go_enter Tryd.func24, Tryd.ntmps24
  go_wp2_with (refine wpList_load_row rfl 38 (.tmp 4) rfl w.heap.size rfl 38 (ncells m) (0, 0) _ G0.out Tryd.underlying38 rfl (i23 LM.out) ?_)
  refine (TX.out _).mono ?_
  rintro e w1 ⟨rfl, hb⟩
  have B4 := Lib.hid (HB.out.trans (hb.mono HB.out.size))
  clear hb
  go_wp2_with fail
  go_ret2
  exact ⟨rfl, B4.out⟩
end Go.Proofs.YtpkeofioobmmoaaDoor
