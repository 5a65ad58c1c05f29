/-
  The contract of keys.Open. Condition: none.
-/
import Derived.Test.YtpkeofioobmmoaaGreatDoorKN
namespace Go.Proofs.YtpkeofioobmmoaaGreatDoor
open Go.RowKit Go.Proofs.YtpkeofioobmmoaaGreatDoor.ae
/-- What Open tells of a slot: the master and OK, or what is wrong. -/
def opE (outer A B C : List Nat) : Int := if chk outer A = B then (if (unw (wrk outer A) C 4).take 8 = fr8 then 0 else 40) else 50
def opV (outer A B C : List Nat) : List Nat := if chk outer A = B then (if (unw (wrk outer A) C 4).take 8 = fr8 then (unw (wrk outer A) C 4).drop 8 else zeros 32) else zeros 32
def UnwP (w : World) (y : Bool) (J : List Nat) (e : Ending) (w' : World) : Prop :=
  Below w.heap.size w w' ∧ (y = true → ∃ q c, e = .returned (.tuple #[.slice q 32 c, .int .i64 0]) ∧ ae.Sees w' (.slice q 32 c) J) ∧ (y = false → e = .returned (.tuple #[.slice none 0 0, .int .i64 20]))
theorem unw_bts {k c : List Nat} (hk : ae.Bts 32 k) (hc : ae.Bts 40 c) : ae.Bts 32 ((unw k c 4).drop 8) := by
  have := bt_ok (fun x hx => dec_bts hk hx) (n := 4) (by omega) 24 (by omega) c hc.1 hc.2
  exact ⟨by rw [List.length_drop]; unfold unw; rw [this.1], fun x hx => this.2 x (List.mem_of_mem_drop hx)⟩
set_option maxRecDepth 100000 in
set_option maxHeartbeats 16000000 in
theorem openK (outer A B C : List Nat) (ho : ae.Bts 32 outer) (hA : ae.Bts 32 A) (hB : ae.Bts 32 B) (hC : ae.Bts 40 C) (w : World) (hG : sh.Glob w) :
    Calls Tryz.prog 4 #[.agg (ncells outer), .agg (ncells (A ++ B ++ C))] w fun e w' => e = .returned (.tuple #[.agg (ncells (opV outer A B C)), .int .i64 (opE outer A B C)]) ∧ Below w.heap.size w w' := by
  have z38 := ae.zero23
  obtain ⟨Z, hZ⟩ : ∃ Z, Z = ncells (zeros 32) := ⟨_, rfl⟩
  rw [← hZ] at z38
  have ZL : Hid (∀ l : List Nat, l.length = 32 → Z.size = (ncells l).size) := fun l hl => by rw [hZ]; exact z23 hl
  have bc := chk_bts (outer := outer) hA.2
  have bw := wrk_bts (outer := outer) hA.2
  have bu := unw_bts bw hC
  have LO := Lib.hid ho.1
  have LC := Lib.hid bc.1
  have LW := Lib.hid bw.1
  have LU := Lib.hid bu.1
  have IA := Lib.hid (i37 hA.1)
  have l104 : (A ++ B ++ C).length = 104 := by rw [List.length_append, List.length_append, hA.1, hB.1, hC.1]
  have LK : Hid (∀ W : World, sh.Glob W → Calls Tryz.prog 12 #[.agg (ncells outer), .agg (ncells A)] W fun e w' => e = .returned (.tuple #[.agg (ncells (chk outer A)), .agg (ncells (wrk outer A))]) ∧ Below W.heap.size W w') := fun W hg => locks outer A ho hA W hg
  have SM : Hid (∀ (W : World) (g k : Nat), W.heap[g]? = some (.cells (ncells (chk outer A)) 23 (0, 0)) → W.heap[k]? = some (.cells (ncells (A ++ B ++ C)) 26 (0, 0)) → Calls Tryz.prog 13 #[.slice (some ⟨g, 0, none⟩) 32 32, .slice (some ⟨k, 32, none⟩) 32 32] W fun e w' => e = .returned (.bool (decide (chk outer A = B))) ∧ Below W.heap.size W w') :=
    fun W g k h1 h2 => (ae.same _ _ _ _ W (sees32 h1 bc) (sees_mid A B C 32 32 hA.1 hB (by omega) h2)).mono fun e w' ⟨h, k⟩ => ⟨h, by rw [← k]; exact Below.refl _ _⟩
  have UW : Hid (∀ (W : World) (k : Nat), W.heap[k]? = some (.cells (ncells (A ++ B ++ C)) 26 (0, 0)) → Calls Tryz.prog 14 #[.agg (ncells (wrk outer A)), .slice (some ⟨k, 64, none⟩) 40 40] W (UnwP W (decide ((unw (wrk outer A) C 4).take 8 = fr8)) ((unw (wrk outer A) C 4).drop 8))) := fun W k h => by
    have h2 := sees_mid (A ++ B) C [] 64 40 (by rw [List.length_append, hA.1, hB.1]) hC (by omega) (by rw [List.append_nil]; exact h)
    refine (unwrapYes _ C bw 4 _ 40 40 W h2 hC.1.symm rfl (by omega) (by omega)).mono ?_
    rintro e w' ⟨hb, ⟨hy, q, c, rfl, hs⟩ | ⟨hy, rfl⟩⟩
    · exact ⟨hb, fun _ => ⟨q, c, rfl, hs⟩, fun h => by simp [hy] at h⟩
    · exact ⟨hb, fun h => by simp [hy] at h, fun _ => rfl⟩
  have RA : Hid (∀ (W : World) (k : Nat), W.heap[k]? = some (.cells (ncells (A ++ B ++ C)) 26 (0, 0)) → W.rangeAt k 0 (ncells A).toList) := fun W k h => range_mid [] A (B ++ C) 0 rfl (by rw [List.nil_append, ← List.append_assoc]; exact h)
  have UNE : Hid ((unw (wrk outer A) C 4).drop 8 ≠ []) := fun e => by have := bu.1; rw [e] at this; simp at this
  have RES : Hid ((chk outer A = B → (unw (wrk outer A) C 4).take 8 = fr8 → opV outer A B C = (unw (wrk outer A) C 4).drop 8 ∧ opE outer A B C = 0) ∧ (chk outer A = B → ¬ (unw (wrk outer A) C 4).take 8 = fr8 → ncells (opV outer A B C) = Z ∧ opE outer A B C = 40) ∧ (¬ chk outer A = B → ncells (opV outer A B C) = Z ∧ opE outer A B C = 50)) := by
    refine ⟨fun h k => ?_, fun h k => ?_, fun h => ?_⟩
    · unfold opV opE; rw [if_pos h, if_pos h, if_pos k, if_pos k]; exact ⟨rfl, rfl⟩
    · unfold opV opE; rw [if_pos h, if_pos h, if_neg k, if_neg k]; exact ⟨hZ.symm, rfl⟩
    · unfold opV opE; rw [if_neg h, if_neg h]; exact ⟨hZ.symm, rfl⟩
  have IZ : Hid ((Tryz.prog.info? 23).map (·.size) = some Z.size) := by show _ = _; rw [hZ]; exact i23 (zeros_len 32)
  have OZ : Hid (Z.all (·.oneCell') = true) := by show _ = _; rw [hZ]; exact none_ _
  have bz := build38z
  rw [← hZ] at bz
  have h2w : 2 ≤ w.heap.size := by have := hG.lt; omega
  obtain ⟨SS, hSS⟩ : ∃ SS, SS = A ++ B ++ C := ⟨_, rfl⟩
  rw [← hSS] at SM UW RA l104 ⊢
  have I41 := Lib.hid (i41 l104)
  obtain ⟨W0, hW0⟩ : ∃ W0, W0 = ((w.alloc (.cells (ncells outer) 23)).alloc (.cells (ncells SS) 26)).alloc (.cells Z 23) := ⟨_, rfl⟩
  have b1 : Below w.heap.size w (w.alloc (.cells (ncells outer) 23)) := (Below.refl _ _).alloc (Nat.le_refl _) _
  have b2 := b1.alloc (by simp) (.cells (ncells SS) 26)
  have b3 := b2.alloc (by simp <;> omega) (.cells Z 23)
  have HB : Hid (Below w.heap.size w W0) := by rw [hW0]; exact b3
  have SZ : Hid (W0.heap.size = w.heap.size + 3) := by show _ = _; rw [hW0]; simp
  have G0 : Hid (W0.heap[w.heap.size]? = some (.cells (ncells outer) 23 (0, 0))) := by
    show _ = _
    rw [hW0, Below.heap_alloc _ _ _ (by simp <;> omega), Below.heap_alloc _ _ _ (by simp)]; exact heap_alloc_new w _
  have G1 : Hid (W0.heap[w.heap.size + 1]? = some (.cells (ncells SS) 26 (0, 0))) := by
    show _ = _
    rw [hW0, Below.heap_alloc _ _ _ (by simp <;> omega)]; exact heap_alloc2_new w _ _
  have G2 : Hid (W0.heap[w.heap.size + 1 + 1]? = some (.cells Z 23 (0, 0))) := by
    show _ = _
    have := heap_alloc_new ((w.alloc (.cells (ncells outer) 23)).alloc (.cells (ncells SS) 26)) (.cells Z 23)
    rw [hW0]
    simpa using this
  have HG := Lib.hid (hG.below b3 h2w)
  rw [← hW0] at HG
  have HW0 := Lib.hid hW0
  clear hW0 b1 b2 b3 ho hA hB hC hG hZ bc bw bu l104 h2w hSS
  generalize opV outer A B C = OV at RES ⊢
  generalize opE outer A B C = OE at RES ⊢
  generalize (unw (wrk outer A) C 4).drop 8 = U at LU UW UNE RES
  generalize (unw (wrk outer A) C 4).take 8 = U8 at UW RES
  generalize chk outer A = CK at LC LK SM RES
  generalize wrk outer A = WK at LW LK UW
  have a38 := arr38
  have a37 := arr37
  have a39 := arr39
  go_enter Tryz.func4, Tryz.ntmps4
  go_wp2_with (first
    | (refine wpList_load_row rfl 23 (.tmp 2) rfl w.heap.size rfl 23 (ncells outer) (0, 0) _ (by rw [← HW0.out]; exact G0.out) Tryz.underlying23 rfl (i23 LO.out) ?_)
    | (refine wpList_load_at rfl 22 (.tmp 12) rfl (w.heap.size + 1) 0 rfl (ncells A) _ (by rw [← HW0.out]; exact RA.out _ _ G1.out) Tryz.underlying22 rfl IA.out ?_))
  rw [← HW0.out]
  refine (LK.out _ HG.out).mono ?_
  rintro e w1 ⟨rfl, hb⟩
  have q1 := (hb.block _ (blk_lt G1.out)).trans G1.out
  have q2 := (hb.block _ (blk_lt G2.out)).trans G2.out
  have al : Below w1.heap.size w1 ((w1.alloc (.cells Z 23)).alloc (.cells Z 23)) := ((Below.refl _ _).alloc (Nat.le_refl _) _).alloc (by simp) _
  have A1 : Hid (((w1.alloc (.cells Z 23)).alloc (.cells Z 23)).heap[w1.heap.size]? = some (.cells Z 23 (0, 0))) := by show _ = _; rw [Below.heap_alloc _ _ _ (by simp)]; exact heap_alloc_new w1 _
  have A2 : Hid ((((w1.alloc (.cells Z 23)).alloc (.cells Z 23)).setRow w1.heap.size (ncells CK)).heap[w1.heap.size + 1]? = some (.cells Z 23 (0, 0))) := by show _ = _; rw [setRow_other _ _ _ _ (by omega)]; exact heap_alloc2_new w1 _ _
  have bs : Below w1.heap.size w1 ((((w1.alloc (.cells Z 23)).alloc (.cells Z 23)).setRow w1.heap.size (ncells CK)).setRow (w1.heap.size + 1) (ncells WK)) := (al.trans (below_row _ _ (Nat.le_refl _))).trans (below_row _ _ (by omega))
  have f7 : ((((w1.alloc (.cells Z 23)).alloc (.cells Z 23)).setRow w1.heap.size (ncells CK)).setRow (w1.heap.size + 1) (ncells WK)).heap[w1.heap.size]? = some (.cells (ncells CK) 23 (0, 0)) := by
    rw [setRow_other _ _ _ _ (by omega)]; exact setRow_heap _ _ _ _ _ _ A1.out
  have f8 : ((((w1.alloc (.cells Z 23)).alloc (.cells Z 23)).setRow w1.heap.size (ncells CK)).setRow (w1.heap.size + 1) (ncells WK)).heap[w1.heap.size + 1]? = some (.cells (ncells WK) 23 (0, 0)) := setRow_heap _ _ _ _ _ _ A2.out
  have g1 := (bs.block _ (blk_lt q1)).trans q1
  have g2 := (bs.block _ (blk_lt q2)).trans q2
  have hbb := (HB.out.trans (hb.mono HB.out.size)).trans (bs.mono (by have := HB.out.size; have := hb.size; omega))
  have F7 := Lib.hid f7
  have F8 := Lib.hid f8
  have G1 := Lib.hid g1
  have G2 := Lib.hid g2
  have HB := Lib.hid hbb
  clear hb q1 q2 al bs f7 f8 g1 g2 hbb LK HG HW0 SZ G0
  go_upto_region 2 with (first
    | (refine wpList_store_row rfl 23 (.tmp 6) (.tmp 15) rfl w1.heap.size (ncells CK) rfl rfl 23 Z A1.out (i23 LC.out) (ZL.out _ LC.out) (none_ _) ?_)
    | (refine wpList_store_row rfl 23 (.tmp 7) (.tmp 16) rfl (w1.heap.size + 1) (ncells WK) rfl rfl 23 Z A2.out (i23 LW.out) (ZL.out _ LW.out) (none_ _) ?_))
  have f7 := F7.out
  have f8 := F8.out
  have g1 := G1.out
  have g2 := G2.out
  have hb := HB.out
  clear F7 F8 G1 G2 HB A1 A2
  generalize (((w1.alloc (.cells Z 23)).alloc (.cells Z 23)).setRow w1.heap.size (ncells CK)).setRow (w1.heap.size + 1) (ncells WK) = w2 at f7 f8 g1 g2 hb ⊢
  generalize w1.heap.size = g7 at f7 f8 ⊢
  have F7 := Lib.hid f7
  have F8 := Lib.hid f8
  have G1 := Lib.hid g1
  have G2 := Lib.hid g2
  have HB := Lib.hid hb
  clear f7 f8 g1 g2 hb
  by_cases hck : CK = B
  · have hd : decide (CK = B) = true := decide_eq_true hck
    have HD := Lib.hid hd
    have HCK := Lib.hid hck
    clear hck hd
    by_cases hu : U8 = fr8
    · have HU := Lib.hid hu
      clear hu
      refine wp_region_held_drew (S := fun W => Below w2.heap.size w2 W) (by kernel_rfl) ((Below.refl _ _).drew) (fun hS => ?_)
      have hb0 : Below w2.heap.size w2 w2.drew := (Below.refl _ _).drew
      clear hb0 
      generalize w2.drew = Wbs at hS  ⊢
      refine' wpAnyH_take (i := 0) ?h1x0b ?hsx0b ?hfx0b ?hrx0b ?hQx0b (Or.inl ⟨?hwx0b, ?hyx0b⟩) hS ?restx0b
      case h1x0b => (simp only [List.getElem?_toArray, List.getElem?_cons_zero]; rfl)
      case hsx0b | hfx0b | hrx0b => kernel_rfl
      case hQx0b => exact fun _ _ _ h => h
      case hwx0b => rfl
      case hyx0b =>
        intro W hW
        go_simp
        try with_reducible rfl
      simp only [Act.put, List.setIfInBounds_toArray, List.set_cons_succ, List.set_cons_zero]
      refine' wpAnyH_take (i := 1) ?h1x1b ?hsx1b ?hfx1b ?hrx1b ?hQx1b (Or.inl ⟨?hwx1b, ?hyx1b⟩) hS ?restx1b
      case h1x1b => (simp only [List.getElem?_toArray, List.getElem?_cons_succ, List.getElem?_cons_zero]; rfl)
      case hsx1b | hfx1b | hrx1b => kernel_rfl
      case hQx1b => exact fun _ _ _ h => h
      case hwx1b => rfl
      case hyx1b =>
        intro W hW
        go_simp
        try with_reducible rfl
      simp only [Act.put, List.setIfInBounds_toArray, List.set_cons_succ, List.set_cons_zero]
      refine' wpAnyH_take (i := 2) ?h1x2b ?hsx2b ?hfx2b ?hrx2b ?hQx2b (Or.inl ⟨?hwx2b, ?hyx2b⟩) hS ?restx2b
      case h1x2b => (simp only [List.getElem?_toArray, List.getElem?_cons_succ, List.getElem?_cons_zero]; rfl)
      case hsx2b | hfx2b | hrx2b => kernel_rfl
      case hQx2b => exact fun _ _ _ h => h
      case hwx2b => rfl
      case hyx2b =>
        intro W hW
        go_simp
        try with_reducible rfl
      simp only [Act.put, List.setIfInBounds_toArray, List.set_cons_succ, List.set_cons_zero]
      refine wpAnyH_ready (rs := [3]) (by kernel_rfl) (by simp) ?_
      refine' (AllReadyH.cons ?hoc3b (fun K hK => ?stc3b) AllReadyH.nil)
      case hoc3b => (simp only [List.getElem?_toArray, List.getElem?_cons_succ, List.getElem?_cons_zero]; rfl)
      have hdd := HD.out
      go_simp
      refine (SM.out Wbs _ _ ((hS.block _ (blk_lt F7.out)).trans F7.out) ((hS.block _ (blk_lt G1.out)).trans G1.out)).mono ?_
      rintro e Wbx3 ⟨rfl, hb⟩
      go_wp2_with fail
      refine hK.out _ _ (hS.trans (hb.mono hS.size)) (fun hHeld => ?_)
      clear hK K
      try simp only [Act.put, List.setIfInBounds_toArray, List.set_cons_succ, List.set_cons_zero]
      clear hS
      have hS := hHeld
      clear hHeld
      clear hb
      refine' wpAnyH_take (i := 4) ?h1x4bx3 ?hsx4bx3 ?hfx4bx3 ?hrx4bx3 ?hQx4bx3 (Or.inl ⟨?hwx4bx3, ?hyx4bx3⟩) hS ?restx4bx3
      case h1x4bx3 => (simp only [List.getElem?_toArray, List.getElem?_cons_succ, List.getElem?_cons_zero]; rfl)
      case hsx4bx3 | hfx4bx3 | hrx4bx3 => kernel_rfl
      case hQx4bx3 => exact fun _ _ _ h => h
      case hwx4bx3 => rfl
      case hyx4bx3 =>
        intro W hW
        go_simp
        try with_reducible rfl
      simp only [Act.put, List.setIfInBounds_toArray, List.set_cons_succ, List.set_cons_zero]
      refine wpAnyH_done (by kernel_rfl) ?_ _
      have F8 := Lib.hid ((hS.block _ (blk_lt F8.out)).trans F8.out)
      have G1 := Lib.hid ((hS.block _ (blk_lt G1.out)).trans G1.out)
      have G2 := Lib.hid ((hS.block _ (blk_lt G2.out)).trans G2.out)
      have HB := Lib.hid (HB.out.trans (hS.mono HB.out.size))
      clear hS F7
      have hdd := HD.out
      go_wp2_with fail
      clear hdd
      refine wp_region_held_drew (S := fun W => Below Wbx3.heap.size Wbx3 W) (by kernel_rfl) ((Below.refl _ _).drew) (fun hS => ?_)
      have hb0 : Below Wbx3.heap.size Wbx3 Wbx3.drew := (Below.refl _ _).drew
      clear hb0 
      generalize Wbx3.drew = Wds at hS  ⊢
      refine' wpAnyH_take (i := 0) ?h1x0d ?hsx0d ?hfx0d ?hrx0d ?hQx0d (yieldsIf_load_at ?hwx0d 23 (.tmp 7) ?hopx0d (g7 + 1) 0 rfl (ncells WK) _ (fun W hW => range_row ((hW.block _ (blk_lt F8.out)).trans F8.out)) Tryz.underlying23 rfl ?hix0d) hS ?restx0d
      case h1x0d => (simp only [List.getElem?_toArray, List.getElem?_cons_zero]; rfl)
      case hopx0d => rfl
      case hsx0d | hfx0d | hrx0d => kernel_rfl
      case hQx0d => exact fun _ _ _ h => h
      case hwx0d => rfl
      case hix0d => exact (i23 LW.out)
      simp only [Act.put, List.setIfInBounds_toArray, List.set_cons_succ, List.set_cons_zero]
      refine' wpAnyH_take (i := 1) ?h1x1d ?hsx1d ?hfx1d ?hrx1d ?hQx1d (Or.inl ⟨?hwx1d, ?hyx1d⟩) hS ?restx1d
      case h1x1d => (simp only [List.getElem?_toArray, List.getElem?_cons_succ, List.getElem?_cons_zero]; rfl)
      case hsx1d | hfx1d | hrx1d => kernel_rfl
      case hQx1d => exact fun _ _ _ h => h
      case hwx1d => rfl
      case hyx1d =>
        intro W hW
        go_simp
        try with_reducible rfl
      simp only [Act.put, List.setIfInBounds_toArray, List.set_cons_succ, List.set_cons_zero]
      refine' wpAnyH_take (i := 2) ?h1x2d ?hsx2d ?hfx2d ?hrx2d ?hQx2d (Or.inl ⟨?hwx2d, ?hyx2d⟩) hS ?restx2d
      case h1x2d => (simp only [List.getElem?_toArray, List.getElem?_cons_succ, List.getElem?_cons_zero]; rfl)
      case hsx2d | hfx2d | hrx2d => kernel_rfl
      case hQx2d => exact fun _ _ _ h => h
      case hwx2d => rfl
      case hyx2d =>
        intro W hW
        go_simp
        try with_reducible rfl
      simp only [Act.put, List.setIfInBounds_toArray, List.set_cons_succ, List.set_cons_zero]
      refine wpAnyH_ready (rs := [3]) (by kernel_rfl) (by simp) ?_
      refine' (AllReadyH.cons ?hoc3d (fun K hK => ?stc3d) AllReadyH.nil)
      case hoc3d => (simp only [List.getElem?_toArray, List.getElem?_cons_succ, List.getElem?_cons_zero]; rfl)
      go_simp
      refine (UW.out Wds _ ((hS.block _ (blk_lt G1.out)).trans G1.out)).mono ?_
      rintro e Wu ⟨hb, hy, hn⟩
      obtain ⟨qx, cx, rfl, hsu⟩ := hy (decide_eq_true HU.out)
      have SU := Lib.hid hsu
      clear hy hn hsu
      go_wp2_with fail
      refine hK.out _ _ (hS.trans (hb.mono hS.size)) (fun hHeld => ?_)
      clear hK K
      try simp only [Act.put, List.setIfInBounds_toArray, List.set_cons_succ, List.set_cons_zero]
      clear hS
      have hS := hHeld
      clear hHeld
      clear hb
      refine' wpAnyH_take (i := 4) ?h1x4dx3 ?hsx4dx3 ?hfx4dx3 ?hrx4dx3 ?hQx4dx3 (Or.inl ⟨?hwx4dx3, ?hyx4dx3⟩) hS ?restx4dx3
      case h1x4dx3 => (simp only [List.getElem?_toArray, List.getElem?_cons_succ, List.getElem?_cons_zero]; rfl)
      case hsx4dx3 | hfx4dx3 | hrx4dx3 => kernel_rfl
      case hQx4dx3 => exact fun _ _ _ h => h
      case hwx4dx3 => rfl
      case hyx4dx3 =>
        intro W hW
        go_simp
        try with_reducible rfl
      simp only [Act.put, List.setIfInBounds_toArray, List.set_cons_succ, List.set_cons_zero]
      refine' wpAnyH_take (i := 5) ?h1x5dx3 ?hsx5dx3 ?hfx5dx3 ?hrx5dx3 ?hQx5dx3 (Or.inl ⟨?hwx5dx3, ?hyx5dx3⟩) hS ?restx5dx3
      case h1x5dx3 => (simp only [List.getElem?_toArray, List.getElem?_cons_succ, List.getElem?_cons_zero]; rfl)
      case hsx5dx3 | hfx5dx3 | hrx5dx3 => kernel_rfl
      case hQx5dx3 => exact fun _ _ _ h => h
      case hwx5dx3 => rfl
      case hyx5dx3 =>
        intro W hW
        go_simp
        try with_reducible rfl
      simp only [Act.put, List.setIfInBounds_toArray, List.set_cons_succ, List.set_cons_zero]
      refine' wpAnyH_take (i := 6) ?h1x6dx3 ?hsx6dx3 ?hfx6dx3 ?hrx6dx3 ?hQx6dx3 (Or.inl ⟨?hwx6dx3, ?hyx6dx3⟩) hS ?restx6dx3
      case h1x6dx3 => (simp only [List.getElem?_toArray, List.getElem?_cons_succ, List.getElem?_cons_zero]; rfl)
      case hsx6dx3 | hfx6dx3 | hrx6dx3 => kernel_rfl
      case hQx6dx3 => exact fun _ _ _ h => h
      case hwx6dx3 => rfl
      case hyx6dx3 =>
        intro W hW
        go_simp
        try with_reducible rfl
      simp only [Act.put, List.setIfInBounds_toArray, List.set_cons_succ, List.set_cons_zero]
      refine' wpAnyH_take (i := 7) ?h1x7dx3 ?hsx7dx3 ?hfx7dx3 ?hrx7dx3 ?hQx7dx3 (Or.inl ⟨?hwx7dx3, ?hyx7dx3⟩) hS ?restx7dx3
      case h1x7dx3 => (simp only [List.getElem?_toArray, List.getElem?_cons_succ, List.getElem?_cons_zero]; rfl)
      case hsx7dx3 | hfx7dx3 | hrx7dx3 => kernel_rfl
      case hQx7dx3 => exact fun _ _ _ h => h
      case hwx7dx3 => rfl
      case hyx7dx3 =>
        intro W hW
        go_simp
        try with_reducible rfl
      simp only [Act.put, List.setIfInBounds_toArray, List.set_cons_succ, List.set_cons_zero]
      refine' wpAnyH_take (i := 8) ?h1x8dx3 ?hsx8dx3 ?hfx8dx3 ?hrx8dx3 ?hQx8dx3 (Or.inl ⟨?hwx8dx3, ?hyx8dx3⟩) hS ?restx8dx3
      case h1x8dx3 => (simp only [List.getElem?_toArray, List.getElem?_cons_succ, List.getElem?_cons_zero]; rfl)
      case hsx8dx3 | hfx8dx3 | hrx8dx3 => kernel_rfl
      case hQx8dx3 => exact fun _ _ _ h => h
      case hwx8dx3 => rfl
      case hyx8dx3 =>
        intro W hW
        go_simp
        try with_reducible rfl
      simp only [Act.put, List.setIfInBounds_toArray, List.set_cons_succ, List.set_cons_zero]
      refine wpAnyH_done (by kernel_rfl) ?_ _
      have G2 := Lib.hid ((hS.block _ (blk_lt G2.out)).trans G2.out)
      have HB := Lib.hid (HB.out.trans (hS.mono HB.out.size))
      clear hS
      obtain ⟨qb, qo, hqx, e1, e2, e3, e4⟩ := SU.out.cells UNE.out
      clear e1 e2 e3 e4
      subst hqx
      have aa := at38
      go_wp2_with (first
        | (refine wpList_load_at rfl 23 (.tmp 34) rfl qb qo rfl (ncells U) _ (range_sees SU.out UNE.out) Tryz.underlying23 rfl (i23 LU.out) ?_)
        | (refine wpList_store_row rfl 23 (.tmp 4) (.tmp 35) rfl (w.heap.size + 1 + 1) (ncells U) rfl rfl 23 Z G2.out (i23 LU.out) (ZL.out _ LU.out) (none_ _) ?_))
      have r9 := setRow_heap _ (w.heap.size + 1 + 1) _ (ncells U) _ _ G2.out
      have h9 := HB.out.trans (below_row (B := w.heap.size) (g := w.heap.size + 1 + 1) _ (ncells U) (by omega))
      obtain ⟨e1, e2⟩ := RES.out.1 HCK.out HU.out
      rw [e1, e2]
      exact bodyPost_ret (v := .tuple #[.agg (ncells U), .int .i64 0]) (results_row_val Tryz.results4 _ _ (w.heap.size + 1 + 1) 23 (ncells U) (0, 0) _ _ rfl rfl r9 Tryz.underlying23 rfl (i23 LU.out)) rfl ⟨rfl, h9⟩
    · have HU := Lib.hid hu
      clear hu
      refine wp_region_held_drew (S := fun W => Below w2.heap.size w2 W) (by kernel_rfl) ((Below.refl _ _).drew) (fun hS => ?_)
      have hb0 : Below w2.heap.size w2 w2.drew := (Below.refl _ _).drew
      clear hb0 
      generalize w2.drew = Wgs at hS  ⊢
      refine' wpAnyH_take (i := 0) ?h1x0g ?hsx0g ?hfx0g ?hrx0g ?hQx0g (Or.inl ⟨?hwx0g, ?hyx0g⟩) hS ?restx0g
      case h1x0g => (simp only [List.getElem?_toArray, List.getElem?_cons_zero]; rfl)
      case hsx0g | hfx0g | hrx0g => kernel_rfl
      case hQx0g => exact fun _ _ _ h => h
      case hwx0g => rfl
      case hyx0g =>
        intro W hW
        go_simp
        try with_reducible rfl
      simp only [Act.put, List.setIfInBounds_toArray, List.set_cons_succ, List.set_cons_zero]
      refine' wpAnyH_take (i := 1) ?h1x1g ?hsx1g ?hfx1g ?hrx1g ?hQx1g (Or.inl ⟨?hwx1g, ?hyx1g⟩) hS ?restx1g
      case h1x1g => (simp only [List.getElem?_toArray, List.getElem?_cons_succ, List.getElem?_cons_zero]; rfl)
      case hsx1g | hfx1g | hrx1g => kernel_rfl
      case hQx1g => exact fun _ _ _ h => h
      case hwx1g => rfl
      case hyx1g =>
        intro W hW
        go_simp
        try with_reducible rfl
      simp only [Act.put, List.setIfInBounds_toArray, List.set_cons_succ, List.set_cons_zero]
      refine' wpAnyH_take (i := 2) ?h1x2g ?hsx2g ?hfx2g ?hrx2g ?hQx2g (Or.inl ⟨?hwx2g, ?hyx2g⟩) hS ?restx2g
      case h1x2g => (simp only [List.getElem?_toArray, List.getElem?_cons_succ, List.getElem?_cons_zero]; rfl)
      case hsx2g | hfx2g | hrx2g => kernel_rfl
      case hQx2g => exact fun _ _ _ h => h
      case hwx2g => rfl
      case hyx2g =>
        intro W hW
        go_simp
        try with_reducible rfl
      simp only [Act.put, List.setIfInBounds_toArray, List.set_cons_succ, List.set_cons_zero]
      refine wpAnyH_ready (rs := [3]) (by kernel_rfl) (by simp) ?_
      refine' (AllReadyH.cons ?hoc3g (fun K hK => ?stc3g) AllReadyH.nil)
      case hoc3g => (simp only [List.getElem?_toArray, List.getElem?_cons_succ, List.getElem?_cons_zero]; rfl)
      have hdd := HD.out
      go_simp
      refine (SM.out Wgs _ _ ((hS.block _ (blk_lt F7.out)).trans F7.out) ((hS.block _ (blk_lt G1.out)).trans G1.out)).mono ?_
      rintro e Wgx3 ⟨rfl, hb⟩
      go_wp2_with fail
      refine hK.out _ _ (hS.trans (hb.mono hS.size)) (fun hHeld => ?_)
      clear hK K
      try simp only [Act.put, List.setIfInBounds_toArray, List.set_cons_succ, List.set_cons_zero]
      clear hS
      have hS := hHeld
      clear hHeld
      clear hb
      refine' wpAnyH_take (i := 4) ?h1x4gx3 ?hsx4gx3 ?hfx4gx3 ?hrx4gx3 ?hQx4gx3 (Or.inl ⟨?hwx4gx3, ?hyx4gx3⟩) hS ?restx4gx3
      case h1x4gx3 => (simp only [List.getElem?_toArray, List.getElem?_cons_succ, List.getElem?_cons_zero]; rfl)
      case hsx4gx3 | hfx4gx3 | hrx4gx3 => kernel_rfl
      case hQx4gx3 => exact fun _ _ _ h => h
      case hwx4gx3 => rfl
      case hyx4gx3 =>
        intro W hW
        go_simp
        try with_reducible rfl
      simp only [Act.put, List.setIfInBounds_toArray, List.set_cons_succ, List.set_cons_zero]
      refine wpAnyH_done (by kernel_rfl) ?_ _
      have F8 := Lib.hid ((hS.block _ (blk_lt F8.out)).trans F8.out)
      have G1 := Lib.hid ((hS.block _ (blk_lt G1.out)).trans G1.out)
      have G2 := Lib.hid ((hS.block _ (blk_lt G2.out)).trans G2.out)
      have HB := Lib.hid (HB.out.trans (hS.mono HB.out.size))
      clear hS F7
      have hdd := HD.out
      go_wp2_with fail
      clear hdd
      refine wp_region_held_drew (S := fun W => Below Wgx3.heap.size Wgx3 W) (by kernel_rfl) ((Below.refl _ _).drew) (fun hS => ?_)
      have hb0 : Below Wgx3.heap.size Wgx3 Wgx3.drew := (Below.refl _ _).drew
      clear hb0 
      generalize Wgx3.drew = Wes at hS  ⊢
      refine' wpAnyH_take (i := 0) ?h1x0e ?hsx0e ?hfx0e ?hrx0e ?hQx0e (yieldsIf_load_at ?hwx0e 23 (.tmp 7) ?hopx0e (g7 + 1) 0 rfl (ncells WK) _ (fun W hW => range_row ((hW.block _ (blk_lt F8.out)).trans F8.out)) Tryz.underlying23 rfl ?hix0e) hS ?restx0e
      case h1x0e => (simp only [List.getElem?_toArray, List.getElem?_cons_zero]; rfl)
      case hopx0e => rfl
      case hsx0e | hfx0e | hrx0e => kernel_rfl
      case hQx0e => exact fun _ _ _ h => h
      case hwx0e => rfl
      case hix0e => exact (i23 LW.out)
      simp only [Act.put, List.setIfInBounds_toArray, List.set_cons_succ, List.set_cons_zero]
      refine' wpAnyH_take (i := 1) ?h1x1e ?hsx1e ?hfx1e ?hrx1e ?hQx1e (Or.inl ⟨?hwx1e, ?hyx1e⟩) hS ?restx1e
      case h1x1e => (simp only [List.getElem?_toArray, List.getElem?_cons_succ, List.getElem?_cons_zero]; rfl)
      case hsx1e | hfx1e | hrx1e => kernel_rfl
      case hQx1e => exact fun _ _ _ h => h
      case hwx1e => rfl
      case hyx1e =>
        intro W hW
        go_simp
        try with_reducible rfl
      simp only [Act.put, List.setIfInBounds_toArray, List.set_cons_succ, List.set_cons_zero]
      refine' wpAnyH_take (i := 2) ?h1x2e ?hsx2e ?hfx2e ?hrx2e ?hQx2e (Or.inl ⟨?hwx2e, ?hyx2e⟩) hS ?restx2e
      case h1x2e => (simp only [List.getElem?_toArray, List.getElem?_cons_succ, List.getElem?_cons_zero]; rfl)
      case hsx2e | hfx2e | hrx2e => kernel_rfl
      case hQx2e => exact fun _ _ _ h => h
      case hwx2e => rfl
      case hyx2e =>
        intro W hW
        go_simp
        try with_reducible rfl
      simp only [Act.put, List.setIfInBounds_toArray, List.set_cons_succ, List.set_cons_zero]
      refine wpAnyH_ready (rs := [3]) (by kernel_rfl) (by simp) ?_
      refine' (AllReadyH.cons ?hoc3e (fun K hK => ?stc3e) AllReadyH.nil)
      case hoc3e => (simp only [List.getElem?_toArray, List.getElem?_cons_succ, List.getElem?_cons_zero]; rfl)
      go_simp
      refine (UW.out Wes _ ((hS.block _ (blk_lt G1.out)).trans G1.out)).mono ?_
      rintro e Wu ⟨hb, hy, hn⟩
      obtain rfl := hn (decide_eq_false HU.out)
      clear hy hn
      go_wp2_with fail
      refine hK.out _ _ (hS.trans (hb.mono hS.size)) (fun hHeld => ?_)
      clear hK K
      try simp only [Act.put, List.setIfInBounds_toArray, List.set_cons_succ, List.set_cons_zero]
      clear hS
      have hS := hHeld
      clear hHeld
      clear hb
      refine' wpAnyH_take (i := 4) ?h1x4ex3 ?hsx4ex3 ?hfx4ex3 ?hrx4ex3 ?hQx4ex3 (Or.inl ⟨?hwx4ex3, ?hyx4ex3⟩) hS ?restx4ex3
      case h1x4ex3 => (simp only [List.getElem?_toArray, List.getElem?_cons_succ, List.getElem?_cons_zero]; rfl)
      case hsx4ex3 | hfx4ex3 | hrx4ex3 => kernel_rfl
      case hQx4ex3 => exact fun _ _ _ h => h
      case hwx4ex3 => rfl
      case hyx4ex3 =>
        intro W hW
        go_simp
        try with_reducible rfl
      simp only [Act.put, List.setIfInBounds_toArray, List.set_cons_succ, List.set_cons_zero]
      refine' wpAnyH_take (i := 5) ?h1x5ex3 ?hsx5ex3 ?hfx5ex3 ?hrx5ex3 ?hQx5ex3 (Or.inl ⟨?hwx5ex3, ?hyx5ex3⟩) hS ?restx5ex3
      case h1x5ex3 => (simp only [List.getElem?_toArray, List.getElem?_cons_succ, List.getElem?_cons_zero]; rfl)
      case hsx5ex3 | hfx5ex3 | hrx5ex3 => kernel_rfl
      case hQx5ex3 => exact fun _ _ _ h => h
      case hwx5ex3 => rfl
      case hyx5ex3 =>
        intro W hW
        go_simp
        try with_reducible rfl
      simp only [Act.put, List.setIfInBounds_toArray, List.set_cons_succ, List.set_cons_zero]
      refine' wpAnyH_take (i := 6) ?h1x6ex3 ?hsx6ex3 ?hfx6ex3 ?hrx6ex3 ?hQx6ex3 (Or.inl ⟨?hwx6ex3, ?hyx6ex3⟩) hS ?restx6ex3
      case h1x6ex3 => (simp only [List.getElem?_toArray, List.getElem?_cons_succ, List.getElem?_cons_zero]; rfl)
      case hsx6ex3 | hfx6ex3 | hrx6ex3 => kernel_rfl
      case hQx6ex3 => exact fun _ _ _ h => h
      case hwx6ex3 => rfl
      case hyx6ex3 =>
        intro W hW
        go_simp
        try with_reducible rfl
      simp only [Act.put, List.setIfInBounds_toArray, List.set_cons_succ, List.set_cons_zero]
      refine' wpAnyH_take (i := 7) ?h1x7ex3 ?hsx7ex3 ?hfx7ex3 ?hrx7ex3 ?hQx7ex3 (Or.inl ⟨?hwx7ex3, ?hyx7ex3⟩) hS ?restx7ex3
      case h1x7ex3 => (simp only [List.getElem?_toArray, List.getElem?_cons_succ, List.getElem?_cons_zero]; rfl)
      case hsx7ex3 | hfx7ex3 | hrx7ex3 => kernel_rfl
      case hQx7ex3 => exact fun _ _ _ h => h
      case hwx7ex3 => rfl
      case hyx7ex3 =>
        intro W hW
        go_simp
        try with_reducible rfl
      simp only [Act.put, List.setIfInBounds_toArray, List.set_cons_succ, List.set_cons_zero]
      refine' wpAnyH_take (i := 8) ?h1x8ex3 ?hsx8ex3 ?hfx8ex3 ?hrx8ex3 ?hQx8ex3 (Or.inl ⟨?hwx8ex3, ?hyx8ex3⟩) hS ?restx8ex3
      case h1x8ex3 => (simp only [List.getElem?_toArray, List.getElem?_cons_succ, List.getElem?_cons_zero]; rfl)
      case hsx8ex3 | hfx8ex3 | hrx8ex3 => kernel_rfl
      case hQx8ex3 => exact fun _ _ _ h => h
      case hwx8ex3 => rfl
      case hyx8ex3 =>
        intro W hW
        go_simp
        try with_reducible rfl
      simp only [Act.put, List.setIfInBounds_toArray, List.set_cons_succ, List.set_cons_zero]
      refine wpAnyH_done (by kernel_rfl) ?_ _
      have G2 := Lib.hid ((hS.block _ (blk_lt G2.out)).trans G2.out)
      have HB := Lib.hid (HB.out.trans (hS.mono HB.out.size))
      clear hS
      go_wp2_with (refine wpList_store_row rfl 23 (.tmp 4) (.tmp 32) rfl (w.heap.size + 1 + 1) Z rfl rfl 23 Z G2.out IZ.out rfl OZ.out ?_)
      have r9 := setRow_heap _ (w.heap.size + 1 + 1) _ Z _ _ G2.out
      have h9 := HB.out.trans (below_row (B := w.heap.size) (g := w.heap.size + 1 + 1) _ Z (by omega))
      obtain ⟨e1, e2⟩ := RES.out.2.1 HCK.out HU.out
      rw [e1, e2]
      exact bodyPost_ret (v := .tuple #[.agg Z, .int .i64 40]) (results_row_val Tryz.results4 _ _ (w.heap.size + 1 + 1) 23 Z (0, 0) _ _ rfl rfl r9 Tryz.underlying23 rfl IZ.out) rfl ⟨rfl, h9⟩
  · have hd : decide (CK = B) = false := decide_eq_false hck
    have HD := Lib.hid hd
    have HCK := Lib.hid hck
    clear hck hd
    refine wp_region_held_drew (S := fun W => Below w2.heap.size w2 W) (by kernel_rfl) ((Below.refl _ _).drew) (fun hS => ?_)
    have hb0 : Below w2.heap.size w2 w2.drew := (Below.refl _ _).drew
    clear hb0 
    generalize w2.drew = Whs at hS  ⊢
    refine' wpAnyH_take (i := 0) ?h1x0h ?hsx0h ?hfx0h ?hrx0h ?hQx0h (Or.inl ⟨?hwx0h, ?hyx0h⟩) hS ?restx0h
    case h1x0h => (simp only [List.getElem?_toArray, List.getElem?_cons_zero]; rfl)
    case hsx0h | hfx0h | hrx0h => kernel_rfl
    case hQx0h => exact fun _ _ _ h => h
    case hwx0h => rfl
    case hyx0h =>
      intro W hW
      go_simp
      try with_reducible rfl
    simp only [Act.put, List.setIfInBounds_toArray, List.set_cons_succ, List.set_cons_zero]
    refine' wpAnyH_take (i := 1) ?h1x1h ?hsx1h ?hfx1h ?hrx1h ?hQx1h (Or.inl ⟨?hwx1h, ?hyx1h⟩) hS ?restx1h
    case h1x1h => (simp only [List.getElem?_toArray, List.getElem?_cons_succ, List.getElem?_cons_zero]; rfl)
    case hsx1h | hfx1h | hrx1h => kernel_rfl
    case hQx1h => exact fun _ _ _ h => h
    case hwx1h => rfl
    case hyx1h =>
      intro W hW
      go_simp
      try with_reducible rfl
    simp only [Act.put, List.setIfInBounds_toArray, List.set_cons_succ, List.set_cons_zero]
    refine' wpAnyH_take (i := 2) ?h1x2h ?hsx2h ?hfx2h ?hrx2h ?hQx2h (Or.inl ⟨?hwx2h, ?hyx2h⟩) hS ?restx2h
    case h1x2h => (simp only [List.getElem?_toArray, List.getElem?_cons_succ, List.getElem?_cons_zero]; rfl)
    case hsx2h | hfx2h | hrx2h => kernel_rfl
    case hQx2h => exact fun _ _ _ h => h
    case hwx2h => rfl
    case hyx2h =>
      intro W hW
      go_simp
      try with_reducible rfl
    simp only [Act.put, List.setIfInBounds_toArray, List.set_cons_succ, List.set_cons_zero]
    refine wpAnyH_ready (rs := [3]) (by kernel_rfl) (by simp) ?_
    refine' (AllReadyH.cons ?hoc3h (fun K hK => ?stc3h) AllReadyH.nil)
    case hoc3h => (simp only [List.getElem?_toArray, List.getElem?_cons_succ, List.getElem?_cons_zero]; rfl)
    have hdd := HD.out
    go_simp
    refine (SM.out Whs _ _ ((hS.block _ (blk_lt F7.out)).trans F7.out) ((hS.block _ (blk_lt G1.out)).trans G1.out)).mono ?_
    rintro e Whx3 ⟨rfl, hb⟩
    go_wp2_with fail
    refine hK.out _ _ (hS.trans (hb.mono hS.size)) (fun hHeld => ?_)
    clear hK K
    try simp only [Act.put, List.setIfInBounds_toArray, List.set_cons_succ, List.set_cons_zero]
    clear hS
    have hS := hHeld
    clear hHeld
    clear hb
    refine' wpAnyH_take (i := 4) ?h1x4hx3 ?hsx4hx3 ?hfx4hx3 ?hrx4hx3 ?hQx4hx3 (Or.inl ⟨?hwx4hx3, ?hyx4hx3⟩) hS ?restx4hx3
    case h1x4hx3 => (simp only [List.getElem?_toArray, List.getElem?_cons_succ, List.getElem?_cons_zero]; rfl)
    case hsx4hx3 | hfx4hx3 | hrx4hx3 => kernel_rfl
    case hQx4hx3 => exact fun _ _ _ h => h
    case hwx4hx3 => rfl
    case hyx4hx3 =>
      intro W hW
      go_simp
      try with_reducible rfl
    simp only [Act.put, List.setIfInBounds_toArray, List.set_cons_succ, List.set_cons_zero]
    refine wpAnyH_done (by kernel_rfl) ?_ _
    have G2 := Lib.hid ((hS.block _ (blk_lt G2.out)).trans G2.out)
    have HB := Lib.hid (HB.out.trans (hS.mono HB.out.size))
    clear hS
    have hdd := HD.out
    go_wp2_with (refine wpList_store_row rfl 23 (.tmp 4) (.tmp 22) rfl (w.heap.size + 1 + 1) Z rfl rfl 23 Z G2.out IZ.out rfl OZ.out ?_)
    have r9 := setRow_heap _ (w.heap.size + 1 + 1) _ Z _ _ G2.out
    have h9 := HB.out.trans (below_row (B := w.heap.size) (g := w.heap.size + 1 + 1) _ Z (by omega))
    obtain ⟨e1, e2⟩ := RES.out.2.2 HCK.out
    rw [e1, e2]
    exact bodyPost_ret (v := .tuple #[.agg Z, .int .i64 50]) (results_row_val Tryz.results4 _ _ (w.heap.size + 1 + 1) 23 Z (0, 0) _ _ rfl rfl r9 Tryz.underlying23 rfl IZ.out) rfl ⟨rfl, h9⟩
end Go.Proofs.YtpkeofioobmmoaaGreatDoor
