/-
  For every head and every slice of bytes the law SuperBack of package casematelaw19 returns true, and they read afterwards as before: heads go there and back, in one way alone. Condition: none.
-/
import Derived.Test.YtplffbpnjnbolaaSuG
namespace Go.Proofs.Ytplffbpnjnbolaa.superBack
open Go.ChangeShapes Go.WideShapes Go.ChangeAt Go.RowKit
theorem hb_zero {bs : List Int} (h : hRe bs = 0) : (hR bs).may ∧ hW (hR bs) = bs ∧ hRv bs = hR bs := by
  have hv : hRv bs = hR bs := by unfold hRv; rw [if_pos h]
  unfold hRe at h
  by_cases h1 : bs.length = 512 ∧ (hR bs).may ∧ hW (hR bs) = bs
  · exact ⟨h1.2.1, h1.2.2, hv⟩
  · rw [if_neg h1] at h; exact absurd h (by decide)
theorem walk_great (X : Array Value) (x : Option Addr) (l cap : Nat) (hl : l ≤ 9223372036854775807) (hg : 1000 < l) (w : World) : Calls Try.prog 5 #[.agg X, .slice x l cap] w fun e w' => e = .returned (.bool true) ∧ Below w.heap.size w w' := by
  have hg' : (1000 : Int) < l := by omega
  go_enter Try.func5, Try.ntmps5
  go_wp2_with fail
  refine (alive19 _).mono ?_
  rintro e w' ⟨rfl, hb⟩
  have HB : Hid (Below w.heap.size w w') := ((Below.refl _ _).alloc (Nat.le_refl _) _).trans (hb.mono (by simp))
  go_wp2_with fail
  go_ret
  exact ⟨rfl, HB.out⟩
set_option maxRecDepth 100000 in
set_option maxHeartbeats 8000000 in
theorem walk_not (H : Hd) (hH : H.ok) (v : Value) (bs : List Int) (hl : bs.length ≤ 1000) (w : World) (h : Sees w v bs) (hm : ¬ H.may) :
    Calls Try.prog 5 #[.agg (hcells H), v] w fun e w' => e = .returned (.bool true) ∧ Below w.heap.size w w' := by
  obtain ⟨x, cap, rfl, _⟩ := h.form
  have hl' : (bs.length : Int) ≤ 1000 := by omega
  have hz29 := z29
  have HL := Lib.hid hH.2.2.2.2
  have RB : Hid (∀ v W, Sees W v bs → Calls Try.prog 15 #[v] W fun e w' => e = .returned (.tuple #[.agg (hcells (hRv bs)), .int .i64 (hRe bs)]) ∧ Below W.heap.size W w') := fun v W h => readH v _ W h
  have WB : Hid (∀ W, Calls Try.prog 12 #[.agg (hcells (hRv bs))] W fun e w' => ∃ v, e = .returned (.tuple #[v, .int .i64 (hE (hRv bs))]) ∧ Sees w' v (hV (hRv bs)) ∧ Below W.heap.size W w') := fun W => writeH _ (hRv_ok h.1) W
  have IR := Lib.hid (i29 HL.out)
  have LQ := Lib.hid (hRv_ok h.1).2.2.2.2
  have IQ := Lib.hid (i29 LQ.out)
  have OQ := Lib.hid (one_hcells (hRv bs))
  have ZQ : Hid ((hcells H0).size = (hcells (hRv bs)).size) := by show _ = _; rw [hcells_size (zs_len 32), hcells_size LQ.out]
  have EZ : Hid (hRe bs = 0 → hE (hRv bs) = 0 ∧ ((strOfNums (hV (hRv bs))).toList == (strOfNums bs).toList) = true) := fun h => by
    obtain ⟨h1, h2, h3⟩ := hb_zero h
    rw [h3]
    refine ⟨if_pos h1, ?_⟩
    unfold hV
    rw [if_pos h1, h2]
    exact beq_self_eq_true _
  have SB := Lib.hid h
  have IT := Lib.hid (rcells_len (s := H.s) hH.2.2.2.2)
  have HRT : Hid (∀ W : World, W.heap[w.heap.size]? = some (.cells (hcells H) 29 (0, 0)) → W.rangeAt w.heap.size 3 (rcells H.s H.z)) := fun W h => hroot h
  have HC2 : Hid (∀ W : World, W.heap[w.heap.size]? = some (.cells (hcells H) 29 (0, 0)) → W.cell? ⟨w.heap.size, 2, none⟩ = some (.bool H.h)) := fun W h => hcell2 h
  have BT := Lib.hid bld27
  have WH : Hid (∀ W, Calls Try.prog 12 #[.agg (hcells H)] W fun e w' => ∃ v, e = .returned (.tuple #[v, .int .i64 3]) ∧ Sees w' v [] ∧ Below W.heap.size W w') := fun W => by
    have := writeH H hH W
    unfold WriteHP hE hV at this
    rw [if_neg hm, if_neg hm] at this
    exact this
  have hh : H.h = false := by
    cases h : H.h with
    | true => exact absurd (.inl h) hm
    | false => rfl
  rw [hh] at HC2
  have EQR : Hid (∀ W, (Op.equalIn 10000 27 (.agg (rcells H.s H.z).toArray) (.agg (rcells 0 (zs 32)).toArray)).run Try.prog W = .ok false W) := fun W => by
    rw [eq27d 9997 _ _ _ _ hH.2.2.2.1 (zs_byt _) HL.out (zs_len _) W, decide_eq_false (fun h => hm (.inr h))]
  have eqr := EQR.out
  generalize rcells H.s H.z = RT at *
  generalize rcells 0 (zs 32) = R0 at *
  clear hm hh EQR
  have AL := Lib.hid alive19
  generalize hcells (hRv bs) = CQ at *
  generalize hCR : hcells H = CR at *
  generalize hcells H0 = ZG at *
  generalize hE (hRv bs) = EV at *
  generalize hV (hRv bs) = VV at *
  generalize hRe bs = EB at *
  obtain ⟨W0, hW0⟩ : ∃ W0, W0 = w.alloc (.cells CR 29) := ⟨_, rfl⟩
  have B0 : Hid (Below w.heap.size w W0) := by rw [hW0]; exact (Below.refl _ _).alloc (Nat.le_refl _) _
  have GR : Hid (W0.heap[w.heap.size]? = some (.cells CR 29 (0, 0))) := by rw [hW0]; exact heap_alloc_new w _
  have SB := Lib.hid (SB.out.below B0.out)
  have HW0 := Lib.hid hW0
  clear hW0 hH h hl
  go_enter Try.func5, Try.ntmps5
  go_wp2_with (refine wpList_load_row rfl 29 (.tmp 2) rfl w.heap.size rfl 29 CR (0, 0) _ (by rw [← HW0.out]; exact GR.out) Try.underlying29 rfl IR.out ?_)
  rw [← HW0.out]
  refine (WH.out _).mono ?_
  rintro e w1 ⟨u1, rfl, hs, hb⟩
  have B0 := Lib.hid (B0.out.trans (hb.mono B0.out.size))
  have GR := Lib.hid ((hb.block _ (blk_lt GR.out)).trans GR.out)
  have SB := Lib.hid (SB.out.below hb)
  obtain ⟨ux1, uc1, rfl, _⟩ := hs.form
  clear hs hb
  go_wp2_with fail
  refine (RB.out _ _ SB.out).mono ?_
  rintro e w1r ⟨rfl, hb⟩
  have B0 := Lib.hid (B0.out.trans (hb.mono B0.out.size))
  have GR := Lib.hid ((hb.block _ (blk_lt GR.out)).trans GR.out)
  have SB := Lib.hid (SB.out.below hb)
  clear hb
  have Av3 := Lib.hid (heap_alloc_new w1r (.cells ZG 29))
  have Ev3 := Lib.hid (alloc_setRowT w1r ZG CQ 29 _ rfl)
  have QQ := Lib.hid (heap_alloc_new w1r (.cells CQ 29))
  have halv3 : Below w1r.heap.size w1r (w1r.alloc (.cells CQ 29)) := (Below.refl _ _).alloc (Nat.le_refl _) _
  have B0 := Lib.hid (B0.out.trans (halv3.mono B0.out.size))
  have GR := Lib.hid ((halv3.block _ (blk_lt GR.out)).trans GR.out)
  have SB := Lib.hid (SB.out.below halv3)
  clear halv3
  go_wp2_with (first
    | (refine wpList_store_row rfl 29 (.tmp 9) (.tmp 44) rfl w1r.heap.size CQ rfl rfl 29 ZG Av3.out IQ.out ZQ.out OQ.out ?_; rw [Ev3.out])
    | (refine wpList_load_row rfl 29 (.tmp 9) rfl w1r.heap.size rfl 29 CQ (0, 0) _ (heap_alloc_new _ _) Try.underlying29 rfl IQ.out ?_))
  clear Av3 Ev3
  generalize w1r.alloc (.cells CQ 29) = v3 at *
  generalize w1r.heap.size = gv3 at *
  refine (WB.out _).mono ?_
  rintro e w9 ⟨u, rfl, hs, hb⟩
  have B0 := Lib.hid (B0.out.trans (hb.mono B0.out.size))
  have GR := Lib.hid ((hb.block _ (blk_lt GR.out)).trans GR.out)
  have SB := Lib.hid (SB.out.below hb)
  have QQ := Lib.hid ((hb.block _ (blk_lt QQ.out)).trans QQ.out)
  have SV := Lib.hid hs
  obtain ⟨ux, uc, rfl, _⟩ := hs.form
  clear hs hb
  go_wp2_with fail
  by_cases hEB : EB = 0
  · subst hEB
    obtain ⟨e1, e2⟩ := EZ.out (by first | rfl | trivial)
    subst e1
    have EQV := Lib.hid e2
    clear e2 EZ
    refine (AL.out _).mono ?_
    rintro e w6 ⟨rfl, hb⟩
    have B0 := Lib.hid (B0.out.trans (hb.mono B0.out.size))
    have GR := Lib.hid ((hb.block _ (blk_lt GR.out)).trans GR.out)
    have SB := Lib.hid (SB.out.below hb)
    have SV := Lib.hid (SV.out.below hb)
    clear hb
    have s1 := SB.out.str
    have s2 := SV.out.str
    have RTF := Lib.hid (HRT.out _ GR.out)
    have c2 := HC2.out _ GR.out
    have eqv := EQV.out
    go_wp2_with (first
      | (refine wpList_mid_met rfl 27 (.tmp 73) rfl w.heap.size 3 rfl RT _ RTF.out Try.underlying27 rfl IT.out ?_)
      | (refine wpList_blank_met rfl 27 rfl (BT.out _) ?_))
    go_ret
    exact ⟨rfl, B0.out⟩
  · have HEB : Hid ((EB != 0) = true) := by show _ = _; simpa using hEB
    clear EZ
    refine (AL.out _).mono ?_
    rintro e w6 ⟨rfl, hb⟩
    have B0 := Lib.hid (B0.out.trans (hb.mono B0.out.size))
    have GR := Lib.hid ((hb.block _ (blk_lt GR.out)).trans GR.out)
    have SB := Lib.hid (SB.out.below hb)
    have SV := Lib.hid (SV.out.below hb)
    clear hb
    have s1 := SB.out.str
    have s2 := SV.out.str
    have RTF := Lib.hid (HRT.out _ GR.out)
    have c2 := HC2.out _ GR.out
    have heb := HEB.out
    go_wp2_with (first
      | (refine wpList_mid_met rfl 27 (.tmp 73) rfl w.heap.size 3 rfl RT _ RTF.out Try.underlying27 rfl IT.out ?_)
      | (refine wpList_blank_met rfl 27 rfl (BT.out _) ?_))
    go_ret
    exact ⟨rfl, B0.out⟩
set_option maxRecDepth 100000 in
set_option maxHeartbeats 8000000 in
theorem walk_has (H : Hd) (hH : H.ok) (v : Value) (bs : List Int) (hl : bs.length ≤ 1000) (w : World) (h : Sees w v bs) (hm : H.may) (hh : H.h = true) :
    Calls Try.prog 5 #[.agg (hcells H), v] w fun e w' => e = .returned (.bool true) ∧ Below w.heap.size w w' := by
  obtain ⟨x, cap, rfl, _⟩ := h.form
  have hl' : (bs.length : Int) ≤ 1000 := by omega
  have hz29 := z29
  have HL := Lib.hid hH.2.2.2.2
  have RB : Hid (∀ v W, Sees W v bs → Calls Try.prog 15 #[v] W fun e w' => e = .returned (.tuple #[.agg (hcells (hRv bs)), .int .i64 (hRe bs)]) ∧ Below W.heap.size W w') := fun v W h => readH v _ W h
  have WB : Hid (∀ W, Calls Try.prog 12 #[.agg (hcells (hRv bs))] W fun e w' => ∃ v, e = .returned (.tuple #[v, .int .i64 (hE (hRv bs))]) ∧ Sees w' v (hV (hRv bs)) ∧ Below W.heap.size W w') := fun W => writeH _ (hRv_ok h.1) W
  have IR := Lib.hid (i29 HL.out)
  have LQ := Lib.hid (hRv_ok h.1).2.2.2.2
  have IQ := Lib.hid (i29 LQ.out)
  have OQ := Lib.hid (one_hcells (hRv bs))
  have ZQ : Hid ((hcells H0).size = (hcells (hRv bs)).size) := by show _ = _; rw [hcells_size (zs_len 32), hcells_size LQ.out]
  have EZ : Hid (hRe bs = 0 → hE (hRv bs) = 0 ∧ ((strOfNums (hV (hRv bs))).toList == (strOfNums bs).toList) = true) := fun h => by
    obtain ⟨h1, h2, h3⟩ := hb_zero h
    rw [h3]
    refine ⟨if_pos h1, ?_⟩
    unfold hV
    rw [if_pos h1, h2]
    exact beq_self_eq_true _
  have SB := Lib.hid h
  have IT := Lib.hid (rcells_len (s := H.s) hH.2.2.2.2)
  have HRT : Hid (∀ W : World, W.heap[w.heap.size]? = some (.cells (hcells H) 29 (0, 0)) → W.rangeAt w.heap.size 3 (rcells H.s H.z)) := fun W h => hroot h
  have HC2 : Hid (∀ W : World, W.heap[w.heap.size]? = some (.cells (hcells H) 29 (0, 0)) → W.cell? ⟨w.heap.size, 2, none⟩ = some (.bool H.h)) := fun W h => hcell2 h
  have BT := Lib.hid bld27
  have WH : Hid (∀ W, Calls Try.prog 12 #[.agg (hcells H)] W fun e w' => ∃ v, e = .returned (.tuple #[v, .int .i64 0]) ∧ Sees w' v (hW H) ∧ Below W.heap.size W w') := fun W => by
    have := writeH H hH W
    unfold WriteHP hE hV at this
    rw [if_pos hm, if_pos hm] at this
    exact this
  have RH : Hid (∀ v W, Sees W v (hW H) → Calls Try.prog 15 #[v] W fun e w' => e = .returned (.tuple #[.agg (hcells H), .int .i64 0]) ∧ Below W.heap.size W w') := fun v W h => by
    have := readH v _ W h
    unfold ReadHP at this
    rw [hRe_hW hH hm, hRv_hW hH hm] at this
    exact this
  have LX := Lib.hid (hW_len (H := H) hH.2.2.2.2)
  have EH : Hid (∀ W, (Op.equalIn 10000 29 (.agg (hcells H)) (.agg (hcells H))).run Try.prog W = .ok true W) := fun W => eq29 H hH.2.2.2.1 hH.2.2.2.2 W
  have eqh := EH.out
  have OR := Lib.hid (one_hcells H)
  have ZR : Hid ((hcells H0).size = (hcells H).size) := by show _ = _; rw [hcells_size (zs_len 32), hcells_size HL.out]
  rw [hh] at HC2
  generalize rcells H.s H.z = RT at *
  generalize rcells 0 (zs 32) = R0 at *
  generalize hW H = XW at *
  clear hm hh EH
  have AL := Lib.hid alive19
  generalize hcells (hRv bs) = CQ at *
  generalize hCR : hcells H = CR at *
  generalize hcells H0 = ZG at *
  generalize hE (hRv bs) = EV at *
  generalize hV (hRv bs) = VV at *
  generalize hRe bs = EB at *
  obtain ⟨W0, hW0⟩ : ∃ W0, W0 = w.alloc (.cells CR 29) := ⟨_, rfl⟩
  have B0 : Hid (Below w.heap.size w W0) := by rw [hW0]; exact (Below.refl _ _).alloc (Nat.le_refl _) _
  have GR : Hid (W0.heap[w.heap.size]? = some (.cells CR 29 (0, 0))) := by rw [hW0]; exact heap_alloc_new w _
  have SB := Lib.hid (SB.out.below B0.out)
  have HW0 := Lib.hid hW0
  clear hW0 hH h hl
  go_enter Try.func5, Try.ntmps5
  go_wp2_with (refine wpList_load_row rfl 29 (.tmp 2) rfl w.heap.size rfl 29 CR (0, 0) _ (by rw [← HW0.out]; exact GR.out) Try.underlying29 rfl IR.out ?_)
  rw [← HW0.out]
  refine (WH.out _).mono ?_
  rintro e w1 ⟨u1, rfl, hs, hb⟩
  have B0 := Lib.hid (B0.out.trans (hb.mono B0.out.size))
  have GR := Lib.hid ((hb.block _ (blk_lt GR.out)).trans GR.out)
  have SB := Lib.hid (SB.out.below hb)
  have S1 := Lib.hid hs
  obtain ⟨ux1, uc1, rfl, _⟩ := hs.form
  rw [LX.out] at S1 ⊢
  clear hs hb
  go_wp2_with fail
  refine (RH.out _ _ S1.out).mono ?_
  rintro e w2 ⟨rfl, hb⟩
  have B0 := Lib.hid (B0.out.trans (hb.mono B0.out.size))
  have GR := Lib.hid ((hb.block _ (blk_lt GR.out)).trans GR.out)
  have SB := Lib.hid (SB.out.below hb)
  clear hb
  have Av2 := Lib.hid (heap_alloc_new w2 (.cells ZG 29))
  have Ev2 := Lib.hid (alloc_setRowT w2 ZG CR 29 _ rfl)
  have Q2 := Lib.hid (heap_alloc_new w2 (.cells CR 29))
  have halv2 : Below w2.heap.size w2 (w2.alloc (.cells CR 29)) := (Below.refl _ _).alloc (Nat.le_refl _) _
  have B0 := Lib.hid (B0.out.trans (halv2.mono B0.out.size))
  have GR := Lib.hid ((halv2.block _ (blk_lt GR.out)).trans GR.out)
  have SB := Lib.hid (SB.out.below halv2)
  clear halv2
  go_wp2_with (first
    | (refine wpList_store_row rfl 29 (.tmp 7) (.tmp 27) rfl w2.heap.size CR rfl rfl 29 ZG Av2.out IR.out ZR.out OR.out ?_; rw [Ev2.out])
    | (refine wpList_load_met rfl 29 (.tmp 2) rfl w.heap.size rfl 29 CR (0, 0) _ GR.out Try.underlying29 ⟨_, rfl⟩ IR.out ?_)
    | (refine wpList_load_met rfl 29 (.tmp 7) rfl w2.heap.size rfl 29 CR (0, 0) _ Q2.out Try.underlying29 ⟨_, rfl⟩ IR.out ?_))
  clear Av2 Ev2
  generalize w2.alloc (.cells CR 29) = v2 at *
  generalize w2.heap.size = gv2 at *
  refine (RB.out _ _ SB.out).mono ?_
  rintro e v2r ⟨rfl, hb⟩
  have B0 := Lib.hid (B0.out.trans (hb.mono B0.out.size))
  have GR := Lib.hid ((hb.block _ (blk_lt GR.out)).trans GR.out)
  have SB := Lib.hid (SB.out.below hb)
  have Q2 := Lib.hid ((hb.block _ (blk_lt Q2.out)).trans Q2.out)
  clear hb
  have Av3 := Lib.hid (heap_alloc_new v2r (.cells ZG 29))
  have Ev3 := Lib.hid (alloc_setRowT v2r ZG CQ 29 _ rfl)
  have QQ := Lib.hid (heap_alloc_new v2r (.cells CQ 29))
  have halv3 : Below v2r.heap.size v2r (v2r.alloc (.cells CQ 29)) := (Below.refl _ _).alloc (Nat.le_refl _) _
  have B0 := Lib.hid (B0.out.trans (halv3.mono B0.out.size))
  have GR := Lib.hid ((halv3.block _ (blk_lt GR.out)).trans GR.out)
  have SB := Lib.hid (SB.out.below halv3)
  have Q2 := Lib.hid ((halv3.block _ (blk_lt Q2.out)).trans Q2.out)
  clear halv3
  go_wp2_with (first
    | (refine wpList_store_row rfl 29 (.tmp 9) (.tmp 44) rfl v2r.heap.size CQ rfl rfl 29 ZG Av3.out IQ.out ZQ.out OQ.out ?_; rw [Ev3.out])
    | (refine wpList_load_row rfl 29 (.tmp 9) rfl v2r.heap.size rfl 29 CQ (0, 0) _ (heap_alloc_new _ _) Try.underlying29 rfl IQ.out ?_))
  clear Av3 Ev3
  generalize v2r.alloc (.cells CQ 29) = v3 at *
  generalize v2r.heap.size = gv3 at *
  refine (WB.out _).mono ?_
  rintro e w9 ⟨u, rfl, hs, hb⟩
  have B0 := Lib.hid (B0.out.trans (hb.mono B0.out.size))
  have GR := Lib.hid ((hb.block _ (blk_lt GR.out)).trans GR.out)
  have SB := Lib.hid (SB.out.below hb)
  have Q2 := Lib.hid ((hb.block _ (blk_lt Q2.out)).trans Q2.out)
  have QQ := Lib.hid ((hb.block _ (blk_lt QQ.out)).trans QQ.out)
  have SV := Lib.hid hs
  obtain ⟨ux, uc, rfl, _⟩ := hs.form
  clear hs hb
  go_wp2_with fail
  by_cases hEB : EB = 0
  · subst hEB
    obtain ⟨e1, e2⟩ := EZ.out (by first | rfl | trivial)
    subst e1
    have EQV := Lib.hid e2
    clear e2 EZ
    refine (AL.out _).mono ?_
    rintro e w6 ⟨rfl, hb⟩
    have B0 := Lib.hid (B0.out.trans (hb.mono B0.out.size))
    have GR := Lib.hid ((hb.block _ (blk_lt GR.out)).trans GR.out)
    have SB := Lib.hid (SB.out.below hb)
    have SV := Lib.hid (SV.out.below hb)
    clear hb
    have s1 := SB.out.str
    have s2 := SV.out.str
    have RTF := Lib.hid (HRT.out _ GR.out)
    have c2 := HC2.out _ GR.out
    have eqv := EQV.out
    go_wp2_with (first
      | (refine wpList_mid_met rfl 27 (.tmp 73) rfl w.heap.size 3 rfl RT _ RTF.out Try.underlying27 rfl IT.out ?_)
      | (refine wpList_blank_met rfl 27 rfl (BT.out _) ?_))
    go_ret
    exact ⟨rfl, B0.out⟩
  · have HEB : Hid ((EB != 0) = true) := by show _ = _; simpa using hEB
    clear EZ
    refine (AL.out _).mono ?_
    rintro e w6 ⟨rfl, hb⟩
    have B0 := Lib.hid (B0.out.trans (hb.mono B0.out.size))
    have GR := Lib.hid ((hb.block _ (blk_lt GR.out)).trans GR.out)
    have SB := Lib.hid (SB.out.below hb)
    have SV := Lib.hid (SV.out.below hb)
    clear hb
    have s1 := SB.out.str
    have s2 := SV.out.str
    have RTF := Lib.hid (HRT.out _ GR.out)
    have c2 := HC2.out _ GR.out
    have heb := HEB.out
    go_wp2_with (first
      | (refine wpList_mid_met rfl 27 (.tmp 73) rfl w.heap.size 3 rfl RT _ RTF.out Try.underlying27 rfl IT.out ?_)
      | (refine wpList_blank_met rfl 27 rfl (BT.out _) ?_))
    go_ret
    exact ⟨rfl, B0.out⟩
set_option maxRecDepth 100000 in
set_option maxHeartbeats 8000000 in
theorem walk_hasnt (H : Hd) (hH : H.ok) (v : Value) (bs : List Int) (hl : bs.length ≤ 1000) (w : World) (h : Sees w v bs) (hm : H.may) (hh : H.h = false) :
    Calls Try.prog 5 #[.agg (hcells H), v] w fun e w' => e = .returned (.bool true) ∧ Below w.heap.size w w' := by
  obtain ⟨x, cap, rfl, _⟩ := h.form
  have hl' : (bs.length : Int) ≤ 1000 := by omega
  have hz29 := z29
  have HL := Lib.hid hH.2.2.2.2
  have RB : Hid (∀ v W, Sees W v bs → Calls Try.prog 15 #[v] W fun e w' => e = .returned (.tuple #[.agg (hcells (hRv bs)), .int .i64 (hRe bs)]) ∧ Below W.heap.size W w') := fun v W h => readH v _ W h
  have WB : Hid (∀ W, Calls Try.prog 12 #[.agg (hcells (hRv bs))] W fun e w' => ∃ v, e = .returned (.tuple #[v, .int .i64 (hE (hRv bs))]) ∧ Sees w' v (hV (hRv bs)) ∧ Below W.heap.size W w') := fun W => writeH _ (hRv_ok h.1) W
  have IR := Lib.hid (i29 HL.out)
  have LQ := Lib.hid (hRv_ok h.1).2.2.2.2
  have IQ := Lib.hid (i29 LQ.out)
  have OQ := Lib.hid (one_hcells (hRv bs))
  have ZQ : Hid ((hcells H0).size = (hcells (hRv bs)).size) := by show _ = _; rw [hcells_size (zs_len 32), hcells_size LQ.out]
  have EZ : Hid (hRe bs = 0 → hE (hRv bs) = 0 ∧ ((strOfNums (hV (hRv bs))).toList == (strOfNums bs).toList) = true) := fun h => by
    obtain ⟨h1, h2, h3⟩ := hb_zero h
    rw [h3]
    refine ⟨if_pos h1, ?_⟩
    unfold hV
    rw [if_pos h1, h2]
    exact beq_self_eq_true _
  have SB := Lib.hid h
  have IT := Lib.hid (rcells_len (s := H.s) hH.2.2.2.2)
  have HRT : Hid (∀ W : World, W.heap[w.heap.size]? = some (.cells (hcells H) 29 (0, 0)) → W.rangeAt w.heap.size 3 (rcells H.s H.z)) := fun W h => hroot h
  have HC2 : Hid (∀ W : World, W.heap[w.heap.size]? = some (.cells (hcells H) 29 (0, 0)) → W.cell? ⟨w.heap.size, 2, none⟩ = some (.bool H.h)) := fun W h => hcell2 h
  have BT := Lib.hid bld27
  have WH : Hid (∀ W, Calls Try.prog 12 #[.agg (hcells H)] W fun e w' => ∃ v, e = .returned (.tuple #[v, .int .i64 0]) ∧ Sees w' v (hW H) ∧ Below W.heap.size W w') := fun W => by
    have := writeH H hH W
    unfold WriteHP hE hV at this
    rw [if_pos hm, if_pos hm] at this
    exact this
  have RH : Hid (∀ v W, Sees W v (hW H) → Calls Try.prog 15 #[v] W fun e w' => e = .returned (.tuple #[.agg (hcells H), .int .i64 0]) ∧ Below W.heap.size W w') := fun v W h => by
    have := readH v _ W h
    unfold ReadHP at this
    rw [hRe_hW hH hm, hRv_hW hH hm] at this
    exact this
  have LX := Lib.hid (hW_len (H := H) hH.2.2.2.2)
  have EH : Hid (∀ W, (Op.equalIn 10000 29 (.agg (hcells H)) (.agg (hcells H))).run Try.prog W = .ok true W) := fun W => eq29 H hH.2.2.2.1 hH.2.2.2.2 W
  have eqh := EH.out
  have OR := Lib.hid (one_hcells H)
  have ZR : Hid ((hcells H0).size = (hcells H).size) := by show _ = _; rw [hcells_size (zs_len 32), hcells_size HL.out]
  rw [hh] at HC2
  have EQR : Hid (∀ W, (Op.equalIn 10000 27 (.agg (rcells H.s H.z).toArray) (.agg (rcells 0 (zs 32)).toArray)).run Try.prog W = .ok true W) := fun W => by
    rw [eq27d 9997 _ _ _ _ hH.2.2.2.1 (zs_byt _) HL.out (zs_len _) W, decide_eq_true]
    rcases hm with h | h
    · rw [hh] at h; cases h
    · exact h
  have eqr := EQR.out
  clear EQR
  generalize rcells H.s H.z = RT at *
  generalize rcells 0 (zs 32) = R0 at *
  generalize hW H = XW at *
  clear hm hh EH
  have AL := Lib.hid alive19
  generalize hcells (hRv bs) = CQ at *
  generalize hCR : hcells H = CR at *
  generalize hcells H0 = ZG at *
  generalize hE (hRv bs) = EV at *
  generalize hV (hRv bs) = VV at *
  generalize hRe bs = EB at *
  obtain ⟨W0, hW0⟩ : ∃ W0, W0 = w.alloc (.cells CR 29) := ⟨_, rfl⟩
  have B0 : Hid (Below w.heap.size w W0) := by rw [hW0]; exact (Below.refl _ _).alloc (Nat.le_refl _) _
  have GR : Hid (W0.heap[w.heap.size]? = some (.cells CR 29 (0, 0))) := by rw [hW0]; exact heap_alloc_new w _
  have SB := Lib.hid (SB.out.below B0.out)
  have HW0 := Lib.hid hW0
  clear hW0 hH h hl
  go_enter Try.func5, Try.ntmps5
  go_wp2_with (refine wpList_load_row rfl 29 (.tmp 2) rfl w.heap.size rfl 29 CR (0, 0) _ (by rw [← HW0.out]; exact GR.out) Try.underlying29 rfl IR.out ?_)
  rw [← HW0.out]
  refine (WH.out _).mono ?_
  rintro e w1 ⟨u1, rfl, hs, hb⟩
  have B0 := Lib.hid (B0.out.trans (hb.mono B0.out.size))
  have GR := Lib.hid ((hb.block _ (blk_lt GR.out)).trans GR.out)
  have SB := Lib.hid (SB.out.below hb)
  have S1 := Lib.hid hs
  obtain ⟨ux1, uc1, rfl, _⟩ := hs.form
  rw [LX.out] at S1 ⊢
  clear hs hb
  go_wp2_with fail
  refine (RH.out _ _ S1.out).mono ?_
  rintro e w2 ⟨rfl, hb⟩
  have B0 := Lib.hid (B0.out.trans (hb.mono B0.out.size))
  have GR := Lib.hid ((hb.block _ (blk_lt GR.out)).trans GR.out)
  have SB := Lib.hid (SB.out.below hb)
  clear hb
  have Av2 := Lib.hid (heap_alloc_new w2 (.cells ZG 29))
  have Ev2 := Lib.hid (alloc_setRowT w2 ZG CR 29 _ rfl)
  have Q2 := Lib.hid (heap_alloc_new w2 (.cells CR 29))
  have halv2 : Below w2.heap.size w2 (w2.alloc (.cells CR 29)) := (Below.refl _ _).alloc (Nat.le_refl _) _
  have B0 := Lib.hid (B0.out.trans (halv2.mono B0.out.size))
  have GR := Lib.hid ((halv2.block _ (blk_lt GR.out)).trans GR.out)
  have SB := Lib.hid (SB.out.below halv2)
  clear halv2
  go_wp2_with (first
    | (refine wpList_store_row rfl 29 (.tmp 7) (.tmp 27) rfl w2.heap.size CR rfl rfl 29 ZG Av2.out IR.out ZR.out OR.out ?_; rw [Ev2.out])
    | (refine wpList_load_met rfl 29 (.tmp 2) rfl w.heap.size rfl 29 CR (0, 0) _ GR.out Try.underlying29 ⟨_, rfl⟩ IR.out ?_)
    | (refine wpList_load_met rfl 29 (.tmp 7) rfl w2.heap.size rfl 29 CR (0, 0) _ Q2.out Try.underlying29 ⟨_, rfl⟩ IR.out ?_))
  clear Av2 Ev2
  generalize w2.alloc (.cells CR 29) = v2 at *
  generalize w2.heap.size = gv2 at *
  refine (RB.out _ _ SB.out).mono ?_
  rintro e v2r ⟨rfl, hb⟩
  have B0 := Lib.hid (B0.out.trans (hb.mono B0.out.size))
  have GR := Lib.hid ((hb.block _ (blk_lt GR.out)).trans GR.out)
  have SB := Lib.hid (SB.out.below hb)
  have Q2 := Lib.hid ((hb.block _ (blk_lt Q2.out)).trans Q2.out)
  clear hb
  have Av3 := Lib.hid (heap_alloc_new v2r (.cells ZG 29))
  have Ev3 := Lib.hid (alloc_setRowT v2r ZG CQ 29 _ rfl)
  have QQ := Lib.hid (heap_alloc_new v2r (.cells CQ 29))
  have halv3 : Below v2r.heap.size v2r (v2r.alloc (.cells CQ 29)) := (Below.refl _ _).alloc (Nat.le_refl _) _
  have B0 := Lib.hid (B0.out.trans (halv3.mono B0.out.size))
  have GR := Lib.hid ((halv3.block _ (blk_lt GR.out)).trans GR.out)
  have SB := Lib.hid (SB.out.below halv3)
  have Q2 := Lib.hid ((halv3.block _ (blk_lt Q2.out)).trans Q2.out)
  clear halv3
  go_wp2_with (first
    | (refine wpList_store_row rfl 29 (.tmp 9) (.tmp 44) rfl v2r.heap.size CQ rfl rfl 29 ZG Av3.out IQ.out ZQ.out OQ.out ?_; rw [Ev3.out])
    | (refine wpList_load_row rfl 29 (.tmp 9) rfl v2r.heap.size rfl 29 CQ (0, 0) _ (heap_alloc_new _ _) Try.underlying29 rfl IQ.out ?_))
  clear Av3 Ev3
  generalize v2r.alloc (.cells CQ 29) = v3 at *
  generalize v2r.heap.size = gv3 at *
  refine (WB.out _).mono ?_
  rintro e w9 ⟨u, rfl, hs, hb⟩
  have B0 := Lib.hid (B0.out.trans (hb.mono B0.out.size))
  have GR := Lib.hid ((hb.block _ (blk_lt GR.out)).trans GR.out)
  have SB := Lib.hid (SB.out.below hb)
  have Q2 := Lib.hid ((hb.block _ (blk_lt Q2.out)).trans Q2.out)
  have QQ := Lib.hid ((hb.block _ (blk_lt QQ.out)).trans QQ.out)
  have SV := Lib.hid hs
  obtain ⟨ux, uc, rfl, _⟩ := hs.form
  clear hs hb
  go_wp2_with fail
  by_cases hEB : EB = 0
  · subst hEB
    obtain ⟨e1, e2⟩ := EZ.out (by first | rfl | trivial)
    subst e1
    have EQV := Lib.hid e2
    clear e2 EZ
    refine (AL.out _).mono ?_
    rintro e w6 ⟨rfl, hb⟩
    have B0 := Lib.hid (B0.out.trans (hb.mono B0.out.size))
    have GR := Lib.hid ((hb.block _ (blk_lt GR.out)).trans GR.out)
    have SB := Lib.hid (SB.out.below hb)
    have SV := Lib.hid (SV.out.below hb)
    clear hb
    have s1 := SB.out.str
    have s2 := SV.out.str
    have RTF := Lib.hid (HRT.out _ GR.out)
    have c2 := HC2.out _ GR.out
    have eqv := EQV.out
    go_wp2_with (first
      | (refine wpList_mid_met rfl 27 (.tmp 73) rfl w.heap.size 3 rfl RT _ RTF.out Try.underlying27 rfl IT.out ?_)
      | (refine wpList_blank_met rfl 27 rfl (BT.out _) ?_))
    go_ret
    exact ⟨rfl, B0.out⟩
  · have HEB : Hid ((EB != 0) = true) := by show _ = _; simpa using hEB
    clear EZ
    refine (AL.out _).mono ?_
    rintro e w6 ⟨rfl, hb⟩
    have B0 := Lib.hid (B0.out.trans (hb.mono B0.out.size))
    have GR := Lib.hid ((hb.block _ (blk_lt GR.out)).trans GR.out)
    have SB := Lib.hid (SB.out.below hb)
    have SV := Lib.hid (SV.out.below hb)
    clear hb
    have s1 := SB.out.str
    have s2 := SV.out.str
    have RTF := Lib.hid (HRT.out _ GR.out)
    have c2 := HC2.out _ GR.out
    have heb := HEB.out
    go_wp2_with (first
      | (refine wpList_mid_met rfl 27 (.tmp 73) rfl w.heap.size 3 rfl RT _ RTF.out Try.underlying27 rfl IT.out ?_)
      | (refine wpList_blank_met rfl 27 rfl (BT.out _) ?_))
    go_ret
    exact ⟨rfl, B0.out⟩
theorem walk (H : Hd) (hH : H.ok) (v : Value) (bs : List Int) (w : World) (h : Sees w v bs) :
    Calls Try.prog 5 #[.agg (hcells H), v] w fun e w' => e = .returned (.bool true) ∧ Below w.heap.size w w' := by
  by_cases hl : bs.length ≤ 1000
  · by_cases hm : H.may
    · cases hh : H.h with
      | true => exact walk_has H hH v bs hl w h hm hh
      | false => exact walk_hasnt H hH v bs hl w h hm hh
    · exact walk_not H hH v bs hl w h hm
  · obtain ⟨x, cap, rfl, h63⟩ := h.form
    exact walk_great _ x _ cap h63 (by omega) w

set_option maxRecDepth 100000 in
theorem lifted (os : Os) (started : os.Started) (H : Type) (enc : TypeId × Value → H) :
    ReturnsInHanded {} Try.checked os 5 .any (Rows.superBackSpec.pre6 enc Try.prog Try.f5 Rows.superBackRow.domain false) (Rows.superBackSpec.post enc Try.prog Try.f5 false true false false) := by
  refine returnsInHanded_of_change (C := Try.checked) own started (by kernel_rfl) Try.func5
    (ChangeSpec.witness6 (enc := enc) (C := Try.checked) false ⟨#[], #[.agg (hcells H0), .slice none 0 0], []⟩ 8 (by kernel_rfl) (by kernel_rfl) (by kernel_rfl) (by kernel_rfl)) ?_
  intro W base args ds gs before hval0 hW hcnd _
  have hval : ∀ (j : Nat) t v, Try.f5.params[j]? = some t → args[j]? = some v → Value.okWide Try.prog W .any base t v := hval0
  have hW' := hW
  obtain ⟨p, q, hA0, hV, rfl, hfz, hnd⟩ := hW
  have hA : DataW.TrodAll enc Try.prog W 0 (fun _ => true) true Try.f5.params.toList args.toList ds p := hA0
  rw [Try.params5] at hA hval
  obtain ⟨v0, vs0, d0, ds0, p0, q0, hargs, rfl, rfl, h0, r0⟩ := trodAll_cons hA
  obtain ⟨v1, vs1, d1, ds1, p1, q1, rfl, rfl, rfl, h1, r1⟩ := trodAll_cons r0
  obtain ⟨rfl, rfl, rfl⟩ := trodAll_nil r1
  obtain rfl : args = #[v0, v1] := by cases args; simp_all
  obtain ⟨rfl, rfl⟩ := trodVars_none hV
  obtain ⟨H0x, hH0, rfl⟩ := open_head (hval 0 29 v0 rfl rfl) h0
  obtain ⟨x1, s1⟩ := open_sees (hval 1 30 v1 rfl rfl) h1
  refine (walk H0x hH0 v1 x1 W s1).mono fun e W' ⟨he, hb⟩ => ?_
  subst he
  exact ⟨_, rfl, law_post hW' rfl rfl rfl (by kernel_rfl) hb⟩

/-- The statement. -/
theorem proved : Rows.SuperBackSaid :=
  OpenClaim.holds_of_wide 5 Try.f5 rfl rfl rfl rfl rfl rfl rfl ⟨rfl, rfl, rfl, rfl, rfl⟩ rfl rfl rfl rfl rfl (by kernel_rfl) Try.func5 (by kernel_rfl)
    (of_decide_eq_true (by kernel_rfl)) (by unfold Func.isWrapper; first | (rw [if_pos (by decide +kernel)]; kernel_rfl) | (rw [if_neg (by decide +kernel)]; exact ⟨rfl, rfl⟩))
    (fun os started H enc _ => lifted os started H enc)
#print axioms proved
end Go.Proofs.Ytplffbpnjnbolaa.superBack
