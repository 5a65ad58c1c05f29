/-
  Contracts of the functions that the statements of package xts go through: what must come of fixed calls. No condition.
-/
import Derived.Test.YtekffhopmicalaaXtsF
namespace Go.Proofs.Ytekffhopmicalaa
open Go.RowKit
theorem moreS {P : Program} {md : Region.Mode} {ops : Array Oper} {Q : Exit → Act → World → Prop} {S S' : World → Prop} (h : ∀ w, S' w → S w) :
    ∀ (fuel : Nat) (listed : Array Bool) (a : Act) (w : World), wpAnyH P md ops Q S' fuel listed a w → wpAnyH P md ops Q S fuel listed a w
  | 0, _, _, _, hh => hh
  | fuel + 1, _, _, _, hh => ⟨hh.1, fun i hi => wpOp_mono (fun a' w' h' => ⟨h w' h'.1, moreS h fuel _ a' w' h'.2⟩) (hh.2 i hi)⟩
theorem sl_to16 (q : Nat) (W : World) : (Instr.slice 28 (.slice (some ⟨q, 0, none⟩) 32 32) none (some (.int .i64 16)) none).run Try.prog W = .ok (.slice (some ⟨q, 0, none⟩) 16 32) W := by kernel_rfl
theorem sl_from16 (q : Nat) (W : World) : (Instr.slice 28 (.slice (some ⟨q, 0, none⟩) 32 32) (some (.int .i64 16)) none none).run Try.prog W = .ok (.slice (some ⟨q, 16, none⟩) 16 16) W := by
  have h := sl_from q 0 32 32 16 (by omega) (by omega) W
  exact h
set_option maxRecDepth 100000 in
set_option maxHeartbeats 8000000 in
theorem alive6 (w : World) : Calls Try.prog 27 #[] w fun e w' => e = .returned (.bool true) ∧ Below w.heap.size w w' := by
  have b1 := build23a
  have b2 := build23b
  have TW : Hid (∀ W : World, Calls Try.prog 26 #[.int .u64 5] W fun e w' => e = .returned (.agg (ncells (twk 5))) ∧ Below W.heap.size W w') := fun W => tweakC 5 W
  have NX : Hid (∀ W : World, Calls Try.prog 30 #[.agg (ncells xk1), .agg (ncells xk2)] W (NewX W (flat xk1) (flat xk2))) := fun W => newX _ _ xk1_bts xk2_bts W
  have TX : Hid (∀ (g q : Nat) (W : World), XIat W g (flat xk1) (flat xk2) → W.heap[q]? = some (.cells (ncells (zeros 32)) 5 (0, 0)) → Calls Try.prog 31 #[.pointer (some ⟨g, 0, none⟩), .agg (ncells (twk 5)), .slice (some ⟨q, 0, none⟩) 32 32] W (SecP W 32 xsec)) :=
    fun g q W h hq => turnX xk1 xk2 (twk 5) (zeros 32) xk1_bts xk2_bts (twk_bts 5) g 32 2 _ 32 W h (sees_row W q (zeros 32) (zeros_byt 32) (by decide) hq 32 rfl) rfl rfl (by omega) (by omega)
  have BX : Hid (∀ (g q : Nat) (W : World), XIat W g (flat xk1) (flat xk2) → W.heap[q]? = some (.cells (ncells xsec) 5 (0, 0)) → Calls Try.prog 33 #[.pointer (some ⟨g, 0, none⟩), .agg (ncells (twk 5)), .slice (some ⟨q, 0, none⟩) 32 32] W (SecP W 32 (zeros 32))) :=
    fun g q W h hq => by
      have := backX xk1 xk2 (twk 5) xsec xk1_bts xk2_bts (twk_bts 5) g 32 2 _ 32 W h (sees_row W q xsec xsec_byt (by rw [xsec_len]; decide) hq 32 xsec_len.symm) xsec_len.symm rfl (by omega) (by omega)
      rw [xsec_back] at this
      exact this
  have TN : Hid (∀ (g q : Nat) (W : World), XIat W g (flat xk1) (flat xk2) → Calls Try.prog 31 #[.pointer (some ⟨g, 0, none⟩), .agg (ncells (twk 5)), .slice (some ⟨q, 0, none⟩) 15 15] W fun e w' => e = .returned (.tuple #[.slice none 0 0, .int .i64 3]) ∧ Below W.heap.size W w') :=
    fun g q W h => turnXNo _ _ (twk 5) (twk_bts 5) g 15 _ 15 W h (by omega) (by omega)
  have DD : Hid (∀ W : World, Calls Try.prog 25 #[.agg (ncells (zeros 15 ++ [128]))] W fun e w' => e = .returned (.agg (ncells (135 :: zeros 15))) ∧ Below W.heap.size W w') := fun W => by
    have := doubleC (zeros 15 ++ [128]) ⟨by decide, by decide⟩ W
    rw [dbm_fixed] at this; exact this
  have EQ : Hid (∀ W : World, (Op.equalIn 10000 37 (.agg (ncells (135 :: zeros 15))) (.agg #[.int .u8 135, .int .u8 0, .int .u8 0, .int .u8 0, .int .u8 0, .int .u8 0, .int .u8 0, .int .u8 0, .int .u8 0, .int .u8 0, .int .u8 0, .int .u8 0, .int .u8 0, .int .u8 0, .int .u8 0, .int .u8 0])).run Try.prog W = .ok true W) := fun W => by
    have := eq37 (135 :: zeros 15) (135 :: zeros 15) ⟨by decide, by decide⟩ ⟨by decide, by decide⟩ W
    rw [decide_eq_true rfl] at this
    exact this
  have M32 : Hid (∀ W : World, (Instr.makeSlice 28 (.int .i64 32) (.int .i64 32)).run Try.prog W = .ok (.slice (some ⟨W.heap.size, 0, none⟩) 32 32) (W.alloc (.cells (ncells (zeros 32)) 5))) := fun W => mkN 32 (by omega) W
  have M15 : Hid (∀ W : World, (Instr.makeSlice 28 (.int .i64 15) (.int .i64 15)).run Try.prog W = .ok (.slice (some ⟨W.heap.size, 0, none⟩) 15 15) (W.alloc (.cells (ncells (zeros 15)) 5))) := fun W => mkN 15 (by omega) W
  have SQ1 : Hid (((strN (zeros 32)).toList == (strN (zeros 32)).toList) = true) := by show _ = _; simp
  have SQ2 : Hid (((strN (xsec.take 16)).toList == (strN (xsec.drop 16)).toList) = false) := by
    show _ = _
    rw [strN_eq (xsec_byt.take 16) (xsec_byt.drop 16)]
    simpa using xsec_unlike
  have SZ : Hid (∀ (W : World) (q : Nat), W.heap[q]? = some (.cells (ncells (zeros 32)) 5 (0, 0)) → (convert 28 9 (.slice (some ⟨q, 0, none⟩) 32 32)).run Try.prog W = .ok (.string (strN (zeros 32))) W) := fun W q h => (sees_row W q (zeros 32) (zeros_byt 32) (by decide) h 32 rfl).str
  have SA : Hid (∀ (W : World) (q : Nat), W.heap[q]? = some (.cells (ncells xsec) 5 (0, 0)) → (convert 28 9 (.slice (some ⟨q, 0, none⟩) 16 32)).run Try.prog W = .ok (.string (strN (xsec.take 16))) W) := fun W q h =>
    (sees_front W q (xsec.take 16) (xsec.drop 16) (xsec_byt.take 16) (by rw [List.take_append_drop]; exact h) 16 32 (by rw [List.length_take, xsec_len]; rfl) (by omega) (by decide)).str
  have SBB : Hid (∀ (W : World) (q : Nat), W.heap[q]? = some (.cells (ncells xsec) 5 (0, 0)) → (convert 28 9 (.slice (some ⟨q, 16, none⟩) 16 16)).run Try.prog W = .ok (.string (strN (xsec.drop 16))) W) := fun W q h => by
    have h2 := sees_part (w := W) (b := q) (o := 0) xsec_byt (fun i hi => by rw [Nat.zero_add]; exact cell_at h xsec_len (by rw [xsec_len] at hi; exact hi)) 16 16 (by rw [xsec_len]; omega) (by omega) 16 (by omega) (by decide)
    rw [List.take_of_length_le (show (xsec.drop 16).length ≤ 16 by rw [List.length_drop, xsec_len]; omega)] at h2
    exact h2.str
  generalize flat xk1 = F1 at *
  generalize flat xk2 = F2 at *
  go_enter Try.func27, Try.ntmps27
  go_wp2_with fail
  refine (NX.out _).mono ?_
  rintro e w1 ⟨g, rfl, hx, hb⟩
  have X1 := Lib.hid hx
  have B1 := Lib.hid hb
  clear hx hb b1 b2 NX
  go_upto_region 4 with fail
  go_cut [2, 3] (fun s2 s3 wx => ∃ q, s2 = .slice (some ⟨q, 0, none⟩) 32 32 ∧ s3 = .int .i64 0 ∧ wx.heap[q]? = some (.cells (ncells xsec) 5 (0, 0)) ∧ XIat wx g F1 F2 ∧ Below w.heap.size w wx)
  case first =>
    refine wp_region_held_drew (S := fun W => Below w1.heap.size w1 W) (by kernel_rfl) (Below.refl _ _).drew (fun hS => ?_)
    refine' wpAnyH_take (i := 0) ?h1x0p ?hsx0p ?hfx0p ?hrx0p ?hQx0p (Or.inl ⟨?hwx0p, ?hyx0p⟩) hS ?restx0p
    case h1x0p => (simp only [List.getElem?_toArray, List.getElem?_cons_zero]; rfl)
    case hsx0p => kernel_rfl
    case hfx0p => kernel_rfl
    case hrx0p => kernel_rfl
    case hQx0p => exact fun _ _ _ h => h
    case hwx0p => rfl
    case hyx0p =>
      intro W hW
      go_simp
      try with_reducible rfl
    simp only [Act.put, List.setIfInBounds_toArray, List.set_cons_succ, List.set_cons_zero]
    refine wpAnyH_ready (rs := [1, 2]) (by kernel_rfl) (by simp) ?_
    refine' AllReadyH.cons ?hoc1p (fun K hK => ?stc1p) (AllReadyH.cons ?hoc2p (fun K hK => ?stc2p) AllReadyH.nil)
    case hoc1p => (simp only [List.getElem?_toArray, List.getElem?_cons_succ, List.getElem?_cons_zero]; rfl)
    case hoc2p => (simp only [List.getElem?_toArray, List.getElem?_cons_succ, List.getElem?_cons_zero]; rfl)
    case stc1p =>
      go_simp
      refine (TW.out _).mono ?_
      rintro e w3 ⟨rfl, hb⟩
      go_wp2_with fail
      refine hK.out _ _ (hS.trans (hb.mono hS.size)) (fun hHeld => ?_)
      clear hK K
      try simp only [Act.put, List.setIfInBounds_toArray, List.set_cons_succ, List.set_cons_zero]
      clear hS hb
      have hS := hHeld
      clear hHeld
      refine wpAnyH_ready (rs := [2]) (by kernel_rfl) (by simp) ?_
      refine' AllReadyH.cons ?hoc2pa (fun K hK => ?stc2pa) AllReadyH.nil
      case hoc2pa => (simp only [List.getElem?_toArray, List.getElem?_cons_succ, List.getElem?_cons_zero]; rfl)
      have mk := M32.out
      go_simp
      refine hK.out _ _ (hS.alloc hS.size _) (fun hHeld => ?_)
      clear hK K
      try simp only [Act.put, List.setIfInBounds_toArray, List.set_cons_succ, List.set_cons_zero]
      have hz := heap_alloc_new w3 (.cells (ncells (zeros 32)) 5)
      clear hS mk
      have hS := hHeld
      clear hHeld
      refine wpAnyH_ready (rs := [3]) (by kernel_rfl) (by simp) ?_
      refine' AllReadyH.cons ?hoc3pa (fun K hK => ?stc3pa) AllReadyH.nil
      case hoc3pa => (simp only [List.getElem?_toArray, List.getElem?_cons_succ, List.getElem?_cons_zero]; rfl)
      go_simp
      refine (TX.out _ _ _ (X1.out.below hS) hz).mono ?_
      rintro e w4 ⟨q, rfl, hq, hr, hb⟩
      clear hz
      have HR := Lib.hid hr
      have X4 := Lib.hid ((X1.out.below hS).below hb)
      clear hq hr
      go_wp2_with fail
      refine hK.out _ _ (hS.trans (hb.mono hS.size)) (fun hHeld => ?_)
      clear hK K
      try simp only [Act.put, List.setIfInBounds_toArray, List.set_cons_succ, List.set_cons_zero]
      clear hS hb
      have hS := hHeld
      clear hHeld
      refine' wpAnyH_take (i := 4) ?h1x4pa ?hsx4pa ?hfx4pa ?hrx4pa ?hQx4pa (Or.inl ⟨?hwx4pa, ?hyx4pa⟩) hS ?restx4pa
      case h1x4pa => (simp only [List.getElem?_toArray, List.getElem?_cons_succ, List.getElem?_cons_zero]; rfl)
      case hsx4pa => kernel_rfl
      case hfx4pa => kernel_rfl
      case hrx4pa => kernel_rfl
      case hQx4pa => exact fun _ _ _ h => h
      case hwx4pa => rfl
      case hyx4pa =>
        intro W hW
        go_simp
        try with_reducible rfl
      simp only [Act.put, List.setIfInBounds_toArray, List.set_cons_succ, List.set_cons_zero]
      refine' wpAnyH_take (i := 5) ?h1x5pa ?hsx5pa ?hfx5pa ?hrx5pa ?hQx5pa (Or.inl ⟨?hwx5pa, ?hyx5pa⟩) hS ?restx5pa
      case h1x5pa => (simp only [List.getElem?_toArray, List.getElem?_cons_succ, List.getElem?_cons_zero]; rfl)
      case hsx5pa => kernel_rfl
      case hfx5pa => kernel_rfl
      case hrx5pa => kernel_rfl
      case hQx5pa => exact fun _ _ _ h => h
      case hwx5pa => rfl
      case hyx5pa =>
        intro W hW
        go_simp
        try with_reducible rfl
      simp only [Act.put, List.setIfInBounds_toArray, List.set_cons_succ, List.set_cons_zero]
      refine' wpAnyH_take (i := 6) ?h1x6pa ?hsx6pa ?hfx6pa ?hrx6pa ?hQx6pa (Or.inl ⟨?hwx6pa, ?hyx6pa⟩) hS ?restx6pa
      case h1x6pa => (simp only [List.getElem?_toArray, List.getElem?_cons_succ, List.getElem?_cons_zero]; rfl)
      case hsx6pa => kernel_rfl
      case hfx6pa => kernel_rfl
      case hrx6pa => kernel_rfl
      case hQx6pa => exact fun _ _ _ h => h
      case hwx6pa => rfl
      case hyx6pa =>
        intro W hW
        go_simp
        try with_reducible rfl
      simp only [Act.put, List.setIfInBounds_toArray, List.set_cons_succ, List.set_cons_zero]
      refine' wpAnyH_take (i := 7) ?h1x7pa ?hsx7pa ?hfx7pa ?hrx7pa ?hQx7pa (Or.inl ⟨?hwx7pa, ?hyx7pa⟩) hS ?restx7pa
      case h1x7pa => (simp only [List.getElem?_toArray, List.getElem?_cons_succ, List.getElem?_cons_zero]; rfl)
      case hsx7pa => kernel_rfl
      case hfx7pa => kernel_rfl
      case hrx7pa => kernel_rfl
      case hQx7pa => exact fun _ _ _ h => h
      case hwx7pa => rfl
      case hyx7pa =>
        intro W hW
        go_simp
        try with_reducible rfl
      simp only [Act.put, List.setIfInBounds_toArray, List.set_cons_succ, List.set_cons_zero]
      refine' wpAnyH_take (i := 8) ?h1x8pa ?hsx8pa ?hfx8pa ?hrx8pa ?hQx8pa (Or.inl ⟨?hwx8pa, ?hyx8pa⟩) hS ?restx8pa
      case h1x8pa => (simp only [List.getElem?_toArray, List.getElem?_cons_succ, List.getElem?_cons_zero]; rfl)
      case hsx8pa => kernel_rfl
      case hfx8pa => kernel_rfl
      case hrx8pa => kernel_rfl
      case hQx8pa => exact fun _ _ _ h => h
      case hwx8pa => rfl
      case hyx8pa =>
        intro W hW
        go_simp
        try with_reducible rfl
      simp only [Act.put, List.setIfInBounds_toArray, List.set_cons_succ, List.set_cons_zero]
      refine wpAnyH_done (by kernel_rfl) ?_ _
      go_wp2_with fail
      go_meet
      exact ⟨q, rfl, rfl, HR.out, X4.out, B1.out.trans (hS.mono B1.out.size)⟩
    case stc2p =>
      have mk := M32.out
      go_simp
      refine hK.out _ _ (hS.alloc hS.size _) (fun hHeld => ?_)
      clear hK K
      try simp only [Act.put, List.setIfInBounds_toArray, List.set_cons_succ, List.set_cons_zero]
      have hz := heap_alloc_new w1.drew (.cells (ncells (zeros 32)) 5)
      clear hS mk
      have hS := hHeld
      clear hHeld
      refine wpAnyH_ready (rs := [1]) (by kernel_rfl) (by simp) ?_
      refine' AllReadyH.cons ?hoc1pb (fun K hK => ?stc1pb) AllReadyH.nil
      case hoc1pb => (simp only [List.getElem?_toArray, List.getElem?_cons_succ, List.getElem?_cons_zero]; rfl)
      go_simp
      refine (TW.out _).mono ?_
      rintro e w3 ⟨rfl, hb⟩
      go_wp2_with fail
      have hz3 := (hb.block _ (blk_lt hz)).trans hz
      clear hz
      have hz := hz3
      clear hz3
      refine hK.out _ _ (hS.trans (hb.mono hS.size)) (fun hHeld => ?_)
      clear hK K
      try simp only [Act.put, List.setIfInBounds_toArray, List.set_cons_succ, List.set_cons_zero]
      clear hS hb
      have hS := hHeld
      clear hHeld
      refine wpAnyH_ready (rs := [3]) (by kernel_rfl) (by simp) ?_
      refine' AllReadyH.cons ?hoc3pb (fun K hK => ?stc3pb) AllReadyH.nil
      case hoc3pb => (simp only [List.getElem?_toArray, List.getElem?_cons_succ, List.getElem?_cons_zero]; rfl)
      go_simp
      refine (TX.out _ _ _ (X1.out.below hS) hz).mono ?_
      rintro e w4 ⟨q, rfl, hq, hr, hb⟩
      clear hz
      have HR := Lib.hid hr
      have X4 := Lib.hid ((X1.out.below hS).below hb)
      clear hq hr
      go_wp2_with fail
      refine hK.out _ _ (hS.trans (hb.mono hS.size)) (fun hHeld => ?_)
      clear hK K
      try simp only [Act.put, List.setIfInBounds_toArray, List.set_cons_succ, List.set_cons_zero]
      clear hS hb
      have hS := hHeld
      clear hHeld
      refine' wpAnyH_take (i := 4) ?h1x4pb ?hsx4pb ?hfx4pb ?hrx4pb ?hQx4pb (Or.inl ⟨?hwx4pb, ?hyx4pb⟩) hS ?restx4pb
      case h1x4pb => (simp only [List.getElem?_toArray, List.getElem?_cons_succ, List.getElem?_cons_zero]; rfl)
      case hsx4pb => kernel_rfl
      case hfx4pb => kernel_rfl
      case hrx4pb => kernel_rfl
      case hQx4pb => exact fun _ _ _ h => h
      case hwx4pb => rfl
      case hyx4pb =>
        intro W hW
        go_simp
        try with_reducible rfl
      simp only [Act.put, List.setIfInBounds_toArray, List.set_cons_succ, List.set_cons_zero]
      refine' wpAnyH_take (i := 5) ?h1x5pb ?hsx5pb ?hfx5pb ?hrx5pb ?hQx5pb (Or.inl ⟨?hwx5pb, ?hyx5pb⟩) hS ?restx5pb
      case h1x5pb => (simp only [List.getElem?_toArray, List.getElem?_cons_succ, List.getElem?_cons_zero]; rfl)
      case hsx5pb => kernel_rfl
      case hfx5pb => kernel_rfl
      case hrx5pb => kernel_rfl
      case hQx5pb => exact fun _ _ _ h => h
      case hwx5pb => rfl
      case hyx5pb =>
        intro W hW
        go_simp
        try with_reducible rfl
      simp only [Act.put, List.setIfInBounds_toArray, List.set_cons_succ, List.set_cons_zero]
      refine' wpAnyH_take (i := 6) ?h1x6pb ?hsx6pb ?hfx6pb ?hrx6pb ?hQx6pb (Or.inl ⟨?hwx6pb, ?hyx6pb⟩) hS ?restx6pb
      case h1x6pb => (simp only [List.getElem?_toArray, List.getElem?_cons_succ, List.getElem?_cons_zero]; rfl)
      case hsx6pb => kernel_rfl
      case hfx6pb => kernel_rfl
      case hrx6pb => kernel_rfl
      case hQx6pb => exact fun _ _ _ h => h
      case hwx6pb => rfl
      case hyx6pb =>
        intro W hW
        go_simp
        try with_reducible rfl
      simp only [Act.put, List.setIfInBounds_toArray, List.set_cons_succ, List.set_cons_zero]
      refine' wpAnyH_take (i := 7) ?h1x7pb ?hsx7pb ?hfx7pb ?hrx7pb ?hQx7pb (Or.inl ⟨?hwx7pb, ?hyx7pb⟩) hS ?restx7pb
      case h1x7pb => (simp only [List.getElem?_toArray, List.getElem?_cons_succ, List.getElem?_cons_zero]; rfl)
      case hsx7pb => kernel_rfl
      case hfx7pb => kernel_rfl
      case hrx7pb => kernel_rfl
      case hQx7pb => exact fun _ _ _ h => h
      case hwx7pb => rfl
      case hyx7pb =>
        intro W hW
        go_simp
        try with_reducible rfl
      simp only [Act.put, List.setIfInBounds_toArray, List.set_cons_succ, List.set_cons_zero]
      refine' wpAnyH_take (i := 8) ?h1x8pb ?hsx8pb ?hfx8pb ?hrx8pb ?hQx8pb (Or.inl ⟨?hwx8pb, ?hyx8pb⟩) hS ?restx8pb
      case h1x8pb => (simp only [List.getElem?_toArray, List.getElem?_cons_succ, List.getElem?_cons_zero]; rfl)
      case hsx8pb => kernel_rfl
      case hfx8pb => kernel_rfl
      case hrx8pb => kernel_rfl
      case hQx8pb => exact fun _ _ _ h => h
      case hwx8pb => rfl
      case hyx8pb =>
        intro W hW
        go_simp
        try with_reducible rfl
      simp only [Act.put, List.setIfInBounds_toArray, List.set_cons_succ, List.set_cons_zero]
      refine wpAnyH_done (by kernel_rfl) ?_ _
      go_wp2_with fail
      go_meet
      exact ⟨q, rfl, rfl, HR.out, X4.out, B1.out.trans (hS.mono B1.out.size)⟩
  case rest =>
  obtain ⟨q, rfl, rfl, hr, hx, hb⟩ := hcut
  clear X1 B1 TX
  clear w1
  have X1 := Lib.hid hx
  have B1 := Lib.hid hb
  have R1 := Lib.hid hr
  clear hx hb hr
  go_wp2_with fail
  refine (TW.out _).mono ?_
  rintro e w2 ⟨rfl, hb⟩
  have X2 := Lib.hid (X1.out.below hb)
  have B2 := Lib.hid (B1.out.trans (hb.mono B1.out.size))
  have R2 := Lib.hid ((hb.block _ (blk_lt R1.out)).trans R1.out)
  clear X1 B1 R1 hb
  go_wp2_with fail
  refine (BX.out _ _ _ X2.out R2.out).mono ?_
  rintro e w3 ⟨q2, rfl, hq, hr, hb⟩
  have X3 := Lib.hid (X2.out.below hb)
  have B3 := Lib.hid (B2.out.trans (hb.mono B2.out.size))
  have R3 := Lib.hid ((hb.block _ (blk_lt R2.out)).trans R2.out)
  have Q3 := Lib.hid hr
  clear X2 B2 R2 hb hr hq BX
  go_upto_region 6 with fail
  go_cut [6, 7] (fun s6 s7 wx => s6 = .slice none 0 0 ∧ s7 = .int .i64 3 ∧ wx.heap[q]? = some (.cells (ncells xsec) 5 (0, 0)) ∧ wx.heap[q2]? = some (.cells (ncells (zeros 32)) 5 (0, 0)) ∧ Below w.heap.size w wx)
  case first =>
    refine wp_region_held_drew (S := fun W => Below w3.heap.size w3 W) (by kernel_rfl) (Below.refl _ _).drew (fun hS => ?_)
    refine' wpAnyH_take (i := 0) ?h1x0q ?hsx0q ?hfx0q ?hrx0q ?hQx0q (Or.inl ⟨?hwx0q, ?hyx0q⟩) hS ?restx0q
    case h1x0q => (simp only [List.getElem?_toArray, List.getElem?_cons_zero]; rfl)
    case hsx0q => kernel_rfl
    case hfx0q => kernel_rfl
    case hrx0q => kernel_rfl
    case hQx0q => exact fun _ _ _ h => h
    case hwx0q => rfl
    case hyx0q =>
      intro W hW
      go_simp
      try with_reducible rfl
    simp only [Act.put, List.setIfInBounds_toArray, List.set_cons_succ, List.set_cons_zero]
    refine wpAnyH_ready (rs := [1, 2]) (by kernel_rfl) (by simp) ?_
    refine' AllReadyH.cons ?hoc1q (fun K hK => ?stc1q) (AllReadyH.cons ?hoc2q (fun K hK => ?stc2q) AllReadyH.nil)
    case hoc1q => (simp only [List.getElem?_toArray, List.getElem?_cons_succ, List.getElem?_cons_zero]; rfl)
    case hoc2q => (simp only [List.getElem?_toArray, List.getElem?_cons_succ, List.getElem?_cons_zero]; rfl)
    case stc1q =>
      go_simp
      refine (TW.out _).mono ?_
      rintro e w4 ⟨rfl, hb⟩
      go_wp2_with fail
      refine hK.out _ _ (hS.trans (hb.mono hS.size)) (fun hHeld => ?_)
      clear hK K
      try simp only [Act.put, List.setIfInBounds_toArray, List.set_cons_succ, List.set_cons_zero]
      clear hS hb
      have hS := hHeld
      clear hHeld
      refine wpAnyH_ready (rs := [2]) (by kernel_rfl) (by simp) ?_
      refine' AllReadyH.cons ?hoc2qa (fun K hK => ?stc2qa) AllReadyH.nil
      case hoc2qa => (simp only [List.getElem?_toArray, List.getElem?_cons_succ, List.getElem?_cons_zero]; rfl)
      have mk := M15.out
      go_simp
      refine hK.out _ _ (hS.alloc hS.size _) (fun hHeld => ?_)
      clear hK K
      try simp only [Act.put, List.setIfInBounds_toArray, List.set_cons_succ, List.set_cons_zero]
      have hz := heap_alloc_new w4 (.cells (ncells (zeros 15)) 5)
      clear hS mk
      have hS := hHeld
      clear hHeld
      refine wpAnyH_ready (rs := [3]) (by kernel_rfl) (by simp) ?_
      refine' AllReadyH.cons ?hoc3qa (fun K hK => ?stc3qa) AllReadyH.nil
      case hoc3qa => (simp only [List.getElem?_toArray, List.getElem?_cons_succ, List.getElem?_cons_zero]; rfl)
      go_simp
      refine (TN.out _ _ _ (X3.out.below hS)).mono ?_
      rintro e w5 ⟨rfl, hb⟩
      go_wp2_with fail
      refine hK.out _ _ (hS.trans (hb.mono hS.size)) (fun hHeld => ?_)
      clear hK K
      try simp only [Act.put, List.setIfInBounds_toArray, List.set_cons_succ, List.set_cons_zero]
      clear hS hb
      have hS := hHeld
      clear hHeld
      refine' wpAnyH_take (i := 4) ?h1x4qa ?hsx4qa ?hfx4qa ?hrx4qa ?hQx4qa (Or.inl ⟨?hwx4qa, ?hyx4qa⟩) hS ?restx4qa
      case h1x4qa => (simp only [List.getElem?_toArray, List.getElem?_cons_succ, List.getElem?_cons_zero]; rfl)
      case hsx4qa => kernel_rfl
      case hfx4qa => kernel_rfl
      case hrx4qa => kernel_rfl
      case hQx4qa => exact fun _ _ _ h => h
      case hwx4qa => rfl
      case hyx4qa =>
        intro W hW
        go_simp
        try with_reducible rfl
      simp only [Act.put, List.setIfInBounds_toArray, List.set_cons_succ, List.set_cons_zero]
      refine' wpAnyH_take (i := 5) ?h1x5qa ?hsx5qa ?hfx5qa ?hrx5qa ?hQx5qa (Or.inl ⟨?hwx5qa, ?hyx5qa⟩) hS ?restx5qa
      case h1x5qa => (simp only [List.getElem?_toArray, List.getElem?_cons_succ, List.getElem?_cons_zero]; rfl)
      case hsx5qa => kernel_rfl
      case hfx5qa => kernel_rfl
      case hrx5qa => kernel_rfl
      case hQx5qa => exact fun _ _ _ h => h
      case hwx5qa => rfl
      case hyx5qa =>
        intro W hW
        go_simp
        try with_reducible rfl
      simp only [Act.put, List.setIfInBounds_toArray, List.set_cons_succ, List.set_cons_zero]
      refine' wpAnyH_take (i := 6) ?h1x6qa ?hsx6qa ?hfx6qa ?hrx6qa ?hQx6qa (Or.inl ⟨?hwx6qa, ?hyx6qa⟩) hS ?restx6qa
      case h1x6qa => (simp only [List.getElem?_toArray, List.getElem?_cons_succ, List.getElem?_cons_zero]; rfl)
      case hsx6qa => kernel_rfl
      case hfx6qa => kernel_rfl
      case hrx6qa => kernel_rfl
      case hQx6qa => exact fun _ _ _ h => h
      case hwx6qa => rfl
      case hyx6qa =>
        intro W hW
        go_simp
        try with_reducible rfl
      simp only [Act.put, List.setIfInBounds_toArray, List.set_cons_succ, List.set_cons_zero]
      refine' wpAnyH_take (i := 7) ?h1x7qa ?hsx7qa ?hfx7qa ?hrx7qa ?hQx7qa (Or.inl ⟨?hwx7qa, ?hyx7qa⟩) hS ?restx7qa
      case h1x7qa => (simp only [List.getElem?_toArray, List.getElem?_cons_succ, List.getElem?_cons_zero]; rfl)
      case hsx7qa => kernel_rfl
      case hfx7qa => kernel_rfl
      case hrx7qa => kernel_rfl
      case hQx7qa => exact fun _ _ _ h => h
      case hwx7qa => rfl
      case hyx7qa =>
        intro W hW
        go_simp
        try with_reducible rfl
      simp only [Act.put, List.setIfInBounds_toArray, List.set_cons_succ, List.set_cons_zero]
      refine' wpAnyH_take (i := 8) ?h1x8qa ?hsx8qa ?hfx8qa ?hrx8qa ?hQx8qa (Or.inl ⟨?hwx8qa, ?hyx8qa⟩) hS ?restx8qa
      case h1x8qa => (simp only [List.getElem?_toArray, List.getElem?_cons_succ, List.getElem?_cons_zero]; rfl)
      case hsx8qa => kernel_rfl
      case hfx8qa => kernel_rfl
      case hrx8qa => kernel_rfl
      case hQx8qa => exact fun _ _ _ h => h
      case hwx8qa => rfl
      case hyx8qa =>
        intro W hW
        go_simp
        try with_reducible rfl
      simp only [Act.put, List.setIfInBounds_toArray, List.set_cons_succ, List.set_cons_zero]
      refine wpAnyH_done (by kernel_rfl) ?_ _
      go_wp2_with fail
      go_meet
      exact ⟨rfl, rfl, (hS.block _ (blk_lt R3.out)).trans R3.out, (hS.block _ (blk_lt Q3.out)).trans Q3.out, B3.out.trans (hS.mono B3.out.size)⟩
    case stc2q =>
      have mk := M15.out
      go_simp
      refine hK.out _ _ (hS.alloc hS.size _) (fun hHeld => ?_)
      clear hK K
      try simp only [Act.put, List.setIfInBounds_toArray, List.set_cons_succ, List.set_cons_zero]
      have hz := heap_alloc_new w3.drew (.cells (ncells (zeros 15)) 5)
      clear hS mk
      have hS := hHeld
      clear hHeld
      refine wpAnyH_ready (rs := [1]) (by kernel_rfl) (by simp) ?_
      refine' AllReadyH.cons ?hoc1qb (fun K hK => ?stc1qb) AllReadyH.nil
      case hoc1qb => (simp only [List.getElem?_toArray, List.getElem?_cons_succ, List.getElem?_cons_zero]; rfl)
      go_simp
      refine (TW.out _).mono ?_
      rintro e w4 ⟨rfl, hb⟩
      go_wp2_with fail
      have hz3 := (hb.block _ (blk_lt hz)).trans hz
      clear hz
      have hz := hz3
      clear hz3
      refine hK.out _ _ (hS.trans (hb.mono hS.size)) (fun hHeld => ?_)
      clear hK K
      try simp only [Act.put, List.setIfInBounds_toArray, List.set_cons_succ, List.set_cons_zero]
      clear hS hb
      have hS := hHeld
      clear hHeld
      refine wpAnyH_ready (rs := [3]) (by kernel_rfl) (by simp) ?_
      refine' AllReadyH.cons ?hoc3qb (fun K hK => ?stc3qb) AllReadyH.nil
      case hoc3qb => (simp only [List.getElem?_toArray, List.getElem?_cons_succ, List.getElem?_cons_zero]; rfl)
      go_simp
      refine (TN.out _ _ _ (X3.out.below hS)).mono ?_
      rintro e w5 ⟨rfl, hb⟩
      go_wp2_with fail
      refine hK.out _ _ (hS.trans (hb.mono hS.size)) (fun hHeld => ?_)
      clear hK K
      try simp only [Act.put, List.setIfInBounds_toArray, List.set_cons_succ, List.set_cons_zero]
      clear hS hb
      have hS := hHeld
      clear hHeld
      refine' wpAnyH_take (i := 4) ?h1x4qb ?hsx4qb ?hfx4qb ?hrx4qb ?hQx4qb (Or.inl ⟨?hwx4qb, ?hyx4qb⟩) hS ?restx4qb
      case h1x4qb => (simp only [List.getElem?_toArray, List.getElem?_cons_succ, List.getElem?_cons_zero]; rfl)
      case hsx4qb => kernel_rfl
      case hfx4qb => kernel_rfl
      case hrx4qb => kernel_rfl
      case hQx4qb => exact fun _ _ _ h => h
      case hwx4qb => rfl
      case hyx4qb =>
        intro W hW
        go_simp
        try with_reducible rfl
      simp only [Act.put, List.setIfInBounds_toArray, List.set_cons_succ, List.set_cons_zero]
      refine' wpAnyH_take (i := 5) ?h1x5qb ?hsx5qb ?hfx5qb ?hrx5qb ?hQx5qb (Or.inl ⟨?hwx5qb, ?hyx5qb⟩) hS ?restx5qb
      case h1x5qb => (simp only [List.getElem?_toArray, List.getElem?_cons_succ, List.getElem?_cons_zero]; rfl)
      case hsx5qb => kernel_rfl
      case hfx5qb => kernel_rfl
      case hrx5qb => kernel_rfl
      case hQx5qb => exact fun _ _ _ h => h
      case hwx5qb => rfl
      case hyx5qb =>
        intro W hW
        go_simp
        try with_reducible rfl
      simp only [Act.put, List.setIfInBounds_toArray, List.set_cons_succ, List.set_cons_zero]
      refine' wpAnyH_take (i := 6) ?h1x6qb ?hsx6qb ?hfx6qb ?hrx6qb ?hQx6qb (Or.inl ⟨?hwx6qb, ?hyx6qb⟩) hS ?restx6qb
      case h1x6qb => (simp only [List.getElem?_toArray, List.getElem?_cons_succ, List.getElem?_cons_zero]; rfl)
      case hsx6qb => kernel_rfl
      case hfx6qb => kernel_rfl
      case hrx6qb => kernel_rfl
      case hQx6qb => exact fun _ _ _ h => h
      case hwx6qb => rfl
      case hyx6qb =>
        intro W hW
        go_simp
        try with_reducible rfl
      simp only [Act.put, List.setIfInBounds_toArray, List.set_cons_succ, List.set_cons_zero]
      refine' wpAnyH_take (i := 7) ?h1x7qb ?hsx7qb ?hfx7qb ?hrx7qb ?hQx7qb (Or.inl ⟨?hwx7qb, ?hyx7qb⟩) hS ?restx7qb
      case h1x7qb => (simp only [List.getElem?_toArray, List.getElem?_cons_succ, List.getElem?_cons_zero]; rfl)
      case hsx7qb => kernel_rfl
      case hfx7qb => kernel_rfl
      case hrx7qb => kernel_rfl
      case hQx7qb => exact fun _ _ _ h => h
      case hwx7qb => rfl
      case hyx7qb =>
        intro W hW
        go_simp
        try with_reducible rfl
      simp only [Act.put, List.setIfInBounds_toArray, List.set_cons_succ, List.set_cons_zero]
      refine' wpAnyH_take (i := 8) ?h1x8qb ?hsx8qb ?hfx8qb ?hrx8qb ?hQx8qb (Or.inl ⟨?hwx8qb, ?hyx8qb⟩) hS ?restx8qb
      case h1x8qb => (simp only [List.getElem?_toArray, List.getElem?_cons_succ, List.getElem?_cons_zero]; rfl)
      case hsx8qb => kernel_rfl
      case hfx8qb => kernel_rfl
      case hrx8qb => kernel_rfl
      case hQx8qb => exact fun _ _ _ h => h
      case hwx8qb => rfl
      case hyx8qb =>
        intro W hW
        go_simp
        try with_reducible rfl
      simp only [Act.put, List.setIfInBounds_toArray, List.set_cons_succ, List.set_cons_zero]
      refine wpAnyH_done (by kernel_rfl) ?_ _
      go_wp2_with fail
      go_meet
      exact ⟨rfl, rfl, (hS.block _ (blk_lt R3.out)).trans R3.out, (hS.block _ (blk_lt Q3.out)).trans Q3.out, B3.out.trans (hS.mono B3.out.size)⟩
  case rest =>
  obtain ⟨rfl, rfl, hr, hq, hb⟩ := hcut
  clear X3 B3 R3 Q3 TN TW M15
  clear w3
  clear w2
  have B1 := Lib.hid hb
  have R1 := Lib.hid hr
  have Q1 := Lib.hid hq
  clear hb hr hq
  have ba := build37a
  have bb := build37b
  have eq := EQ.out
  have s1 := sl_to16 q
  have s2 := sl_from16 q
  have sq1 := SQ1.out
  have sq2 := SQ2.out
  go_wp2_with fail
  refine wp_region_held_drew (S := fun W => Below wc.heap.size wc W) (by kernel_rfl) (Below.refl _ _).drew (fun hS => ?_)
  refine' wpAnyH_take (i := 0) ?h1x0r ?hsx0r ?hfx0r ?hrx0r ?hQx0r (Or.inl ⟨?hwx0r, ?hyx0r⟩) hS ?restx0r
  case h1x0r => (simp only [List.getElem?_toArray, List.getElem?_cons_zero]; rfl)
  case hsx0r => kernel_rfl
  case hfx0r => kernel_rfl
  case hrx0r => kernel_rfl
  case hQx0r => exact fun _ _ _ h => h
  case hwx0r => rfl
  case hyx0r =>
    intro W hW
    go_simp
    try with_reducible rfl
  simp only [Act.put, List.setIfInBounds_toArray, List.set_cons_succ, List.set_cons_zero]
  refine' wpAnyH_take (i := 2) ?h1x2r ?hsx2r ?hfx2r ?hrx2r ?hQx2r (Or.inl ⟨?hwx2r, ?hyx2r⟩) hS ?restx2r
  case h1x2r => (simp only [List.getElem?_toArray, List.getElem?_cons_succ, List.getElem?_cons_zero]; rfl)
  case hsx2r => kernel_rfl
  case hfx2r => kernel_rfl
  case hrx2r => kernel_rfl
  case hQx2r => exact fun _ _ _ h => h
  case hwx2r => rfl
  case hyx2r =>
    intro W hW
    go_simp
    try with_reducible rfl
  simp only [Act.put, List.setIfInBounds_toArray, List.set_cons_succ, List.set_cons_zero]
  refine wpAnyH_ready (rs := [1]) (by kernel_rfl) (by simp) ?_
  refine' AllReadyH.cons ?hoc1r (fun K hK => ?stc1r) AllReadyH.nil
  case hoc1r => (simp only [List.getElem?_toArray, List.getElem?_cons_succ, List.getElem?_cons_zero]; rfl)
  go_simp
  refine (DD.out _).mono ?_
  rintro e w6 ⟨rfl, hb⟩
  go_wp2_with fail
  refine hK.out _ _ (hS.trans (hb.mono hS.size)) (fun hHeld => ?_)
  clear hK K
  try simp only [Act.put, List.setIfInBounds_toArray, List.set_cons_succ, List.set_cons_zero]
  clear hS hb
  have hS := hHeld
  clear hHeld
  refine' wpAnyH_take (i := 3) ?h1x3r ?hsx3r ?hfx3r ?hrx3r ?hQx3r (Or.inl ⟨?hwx3r, ?hyx3r⟩) hS ?restx3r
  case h1x3r => (simp only [List.getElem?_toArray, List.getElem?_cons_succ, List.getElem?_cons_zero]; rfl)
  case hsx3r => kernel_rfl
  case hfx3r => kernel_rfl
  case hrx3r => kernel_rfl
  case hQx3r => exact fun _ _ _ h => h
  case hwx3r => rfl
  case hyx3r =>
    intro W hW
    go_simp
    try with_reducible rfl
  simp only [Act.put, List.setIfInBounds_toArray, List.set_cons_succ, List.set_cons_zero]
  refine' wpAnyH_take (i := 4) ?h1x4r ?hsx4r ?hfx4r ?hrx4r ?hQx4r (Or.inl ⟨?hwx4r, ?hyx4r⟩) hS ?restx4r
  case h1x4r => (simp only [List.getElem?_toArray, List.getElem?_cons_succ, List.getElem?_cons_zero]; rfl)
  case hsx4r => kernel_rfl
  case hfx4r => kernel_rfl
  case hrx4r => kernel_rfl
  case hQx4r => exact fun _ _ _ h => h
  case hwx4r => rfl
  case hyx4r =>
    intro W hW
    go_simp
    try with_reducible rfl
  simp only [Act.put, List.setIfInBounds_toArray, List.set_cons_succ, List.set_cons_zero]
  refine' wpAnyH_take (i := 5) ?h1x5r ?hsx5r ?hfx5r ?hrx5r ?hQx5r (Or.inl ⟨?hwx5r, ?hyx5r⟩) hS ?restx5r
  case h1x5r => (simp only [List.getElem?_toArray, List.getElem?_cons_succ, List.getElem?_cons_zero]; rfl)
  case hsx5r => kernel_rfl
  case hfx5r => kernel_rfl
  case hrx5r => kernel_rfl
  case hQx5r => exact fun _ _ _ h => h
  case hwx5r => rfl
  case hyx5r =>
    intro W hW
    go_simp
    try with_reducible rfl
  simp only [Act.put, List.setIfInBounds_toArray, List.set_cons_succ, List.set_cons_zero]
  refine' wpAnyH_take (i := 6) ?h1x6r ?hsx6r ?hfx6r ?hrx6r ?hQx6r (Or.inl ⟨?hwx6r, ?hyx6r⟩) hS ?restx6r
  case h1x6r => (simp only [List.getElem?_toArray, List.getElem?_cons_succ, List.getElem?_cons_zero]; rfl)
  case hsx6r => kernel_rfl
  case hfx6r => kernel_rfl
  case hrx6r => kernel_rfl
  case hQx6r => exact fun _ _ _ h => h
  case hwx6r => rfl
  case hyx6r =>
    intro W hW
    go_simp
    try with_reducible rfl
  simp only [Act.put, List.setIfInBounds_toArray, List.set_cons_succ, List.set_cons_zero]
  refine' wpAnyH_take (i := 7) ?h1x7r ?hsx7r ?hfx7r ?hrx7r ?hQx7r (Or.inl ⟨?hwx7r, ?hyx7r⟩) hS ?restx7r
  case h1x7r => (simp only [List.getElem?_toArray, List.getElem?_cons_succ, List.getElem?_cons_zero]; rfl)
  case hsx7r => kernel_rfl
  case hfx7r => kernel_rfl
  case hrx7r => kernel_rfl
  case hQx7r => exact fun _ _ _ h => h
  case hwx7r => rfl
  case hyx7r =>
    intro W hW
    go_simp
    try with_reducible rfl
  simp only [Act.put, List.setIfInBounds_toArray, List.set_cons_succ, List.set_cons_zero]
  refine' wpAnyH_take (i := 8) ?h1x8r ?hsx8r ?hfx8r ?hrx8r ?hQx8r (Or.inl ⟨?hwx8r, ?hyx8r⟩) hS ?restx8r
  case h1x8r => (simp only [List.getElem?_toArray, List.getElem?_cons_succ, List.getElem?_cons_zero]; rfl)
  case hsx8r => kernel_rfl
  case hfx8r => kernel_rfl
  case hrx8r => kernel_rfl
  case hQx8r => exact fun _ _ _ h => h
  case hwx8r => rfl
  case hyx8r =>
    intro W hW
    go_simp
    try with_reducible rfl
  simp only [Act.put, List.setIfInBounds_toArray, List.set_cons_succ, List.set_cons_zero]
  refine' wpAnyH_take (i := 9) ?h1x9r ?hsx9r ?hfx9r ?hrx9r ?hQx9r (Or.inl ⟨?hwx9r, ?hyx9r⟩) hS ?restx9r
  case h1x9r => (simp only [List.getElem?_toArray, List.getElem?_cons_succ, List.getElem?_cons_zero]; rfl)
  case hsx9r => kernel_rfl
  case hfx9r => kernel_rfl
  case hrx9r => kernel_rfl
  case hQx9r => exact fun _ _ _ h => h
  case hwx9r => rfl
  case hyx9r =>
    intro W hW
    go_simp
    try with_reducible rfl
  simp only [Act.put, List.setIfInBounds_toArray, List.set_cons_succ, List.set_cons_zero]
  refine' wpAnyH_take (i := 10) ?h1x10r ?hsx10r ?hfx10r ?hrx10r ?hQx10r (Or.inl ⟨?hwx10r, ?hyx10r⟩) hS ?restx10r
  case h1x10r => (simp only [List.getElem?_toArray, List.getElem?_cons_succ, List.getElem?_cons_zero]; rfl)
  case hsx10r => kernel_rfl
  case hfx10r => kernel_rfl
  case hrx10r => kernel_rfl
  case hQx10r => exact fun _ _ _ h => h
  case hwx10r => rfl
  case hyx10r =>
    intro W hW
    go_simp
    try with_reducible rfl
  simp only [Act.put, List.setIfInBounds_toArray, List.set_cons_succ, List.set_cons_zero]
  refine' wpAnyH_take (i := 11) ?h1x11r ?hsx11r ?hfx11r ?hrx11r ?hQx11r (Or.inl ⟨?hwx11r, ?hyx11r⟩) hS ?restx11r
  case h1x11r => (simp only [List.getElem?_toArray, List.getElem?_cons_succ, List.getElem?_cons_zero]; rfl)
  case hsx11r => kernel_rfl
  case hfx11r => kernel_rfl
  case hrx11r => kernel_rfl
  case hQx11r => exact fun _ _ _ h => h
  case hwx11r => rfl
  case hyx11r =>
    intro W hW
    go_simp
    try with_reducible rfl
  simp only [Act.put, List.setIfInBounds_toArray, List.set_cons_succ, List.set_cons_zero]
  refine' wpAnyH_take (i := 12) ?h1x12r ?hsx12r ?hfx12r ?hrx12r ?hQx12r (Or.inl ⟨?hwx12r, ?hyx12r⟩) hS ?restx12r
  case h1x12r => (simp only [List.getElem?_toArray, List.getElem?_cons_succ, List.getElem?_cons_zero]; rfl)
  case hsx12r => kernel_rfl
  case hfx12r => kernel_rfl
  case hrx12r => kernel_rfl
  case hQx12r => exact fun _ _ _ h => h
  case hwx12r => rfl
  case hyx12r =>
    intro W hW
    go_simp
    try with_reducible rfl
  simp only [Act.put, List.setIfInBounds_toArray, List.set_cons_succ, List.set_cons_zero]
  refine' wpAnyH_take (i := 13) ?h1x13r ?hsx13r ?hfx13r ?hrx13r ?hQx13r (Or.inl ⟨?hwx13r, ?hyx13r⟩) hS ?restx13r
  case h1x13r => (simp only [List.getElem?_toArray, List.getElem?_cons_succ, List.getElem?_cons_zero]; rfl)
  case hsx13r => kernel_rfl
  case hfx13r => kernel_rfl
  case hrx13r => kernel_rfl
  case hQx13r => exact fun _ _ _ h => h
  case hwx13r => rfl
  case hyx13r =>
    intro W hW
    go_simp
    try with_reducible rfl
  simp only [Act.put, List.setIfInBounds_toArray, List.set_cons_succ, List.set_cons_zero]
  refine' wpAnyH_take (i := 14) ?h1x14r ?hsx14r ?hfx14r ?hrx14r ?hQx14r (Or.inl ⟨?hwx14r, ?hyx14r⟩) hS ?restx14r
  case h1x14r => (simp only [List.getElem?_toArray, List.getElem?_cons_succ, List.getElem?_cons_zero]; rfl)
  case hsx14r => kernel_rfl
  case hfx14r => kernel_rfl
  case hrx14r => kernel_rfl
  case hQx14r => exact fun _ _ _ h => h
  case hwx14r => rfl
  case hyx14r =>
    intro W hW
    go_simp
    try with_reducible rfl
  simp only [Act.put, List.setIfInBounds_toArray, List.set_cons_succ, List.set_cons_zero]
  refine' wpAnyH_take (i := 15) ?h1x15r ?hsx15r ?hfx15r ?hrx15r ?hQx15r (Or.inl ⟨?hwx15r, ?hyx15r⟩) hS ?restx15r
  case h1x15r => (simp only [List.getElem?_toArray, List.getElem?_cons_succ, List.getElem?_cons_zero]; rfl)
  case hsx15r => kernel_rfl
  case hfx15r => kernel_rfl
  case hrx15r => kernel_rfl
  case hQx15r => exact fun _ _ _ h => h
  case hwx15r => rfl
  case hyx15r =>
    intro W hW
    go_simp
    try with_reducible rfl
  simp only [Act.put, List.setIfInBounds_toArray, List.set_cons_succ, List.set_cons_zero]
  refine' wpAnyH_take (i := 16) ?h1x16r ?hsx16r ?hfx16r ?hrx16r ?hQx16r (Or.inl ⟨?hwx16r, ?hyx16r⟩) hS ?restx16r
  case h1x16r => (simp only [List.getElem?_toArray, List.getElem?_cons_succ, List.getElem?_cons_zero]; rfl)
  case hsx16r => kernel_rfl
  case hfx16r => kernel_rfl
  case hrx16r => kernel_rfl
  case hQx16r => exact fun _ _ _ h => h
  case hwx16r => rfl
  case hyx16r =>
    intro W hW
    go_simp
    try with_reducible rfl
  simp only [Act.put, List.setIfInBounds_toArray, List.set_cons_succ, List.set_cons_zero]
  refine' wpAnyH_take (i := 17) ?h1x17r ?hsx17r ?hfx17r ?hrx17r ?hQx17r (Or.inl ⟨?hwx17r, ?hyx17r⟩) hS ?restx17r
  case h1x17r => (simp only [List.getElem?_toArray, List.getElem?_cons_succ, List.getElem?_cons_zero]; rfl)
  case hsx17r => kernel_rfl
  case hfx17r => kernel_rfl
  case hrx17r => kernel_rfl
  case hQx17r => exact fun _ _ _ h => h
  case hwx17r => rfl
  case hyx17r =>
    intro W hW
    go_simp
    try with_reducible rfl
  simp only [Act.put, List.setIfInBounds_toArray, List.set_cons_succ, List.set_cons_zero]
  refine' wpAnyH_take (i := 18) ?h1x18r ?hsx18r ?hfx18r ?hrx18r ?hQx18r (Or.inl ⟨?hwx18r, ?hyx18r⟩) hS ?restx18r
  case h1x18r => (simp only [List.getElem?_toArray, List.getElem?_cons_succ, List.getElem?_cons_zero]; rfl)
  case hsx18r => kernel_rfl
  case hfx18r => kernel_rfl
  case hrx18r => kernel_rfl
  case hQx18r => exact fun _ _ _ h => h
  case hwx18r => rfl
  case hyx18r =>
    intro W hW
    go_simp
    try with_reducible rfl
  simp only [Act.put, List.setIfInBounds_toArray, List.set_cons_succ, List.set_cons_zero]
  refine' wpAnyH_take (i := 19) ?h1x19r ?hsx19r ?hfx19r ?hrx19r ?hQx19r (Or.inl ⟨?hwx19r, ?hyx19r⟩) hS ?restx19r
  case h1x19r => (simp only [List.getElem?_toArray, List.getElem?_cons_succ, List.getElem?_cons_zero]; rfl)
  case hsx19r => kernel_rfl
  case hfx19r => kernel_rfl
  case hrx19r => kernel_rfl
  case hQx19r => exact fun _ _ _ h => h
  case hwx19r => rfl
  case hyx19r =>
    intro W hW
    have cs := SZ.out W q2 ((hW.block _ (blk_lt Q1.out)).trans Q1.out)
    go_simp
    try with_reducible rfl
  simp only [Act.put, List.setIfInBounds_toArray, List.set_cons_succ, List.set_cons_zero]
  refine wpAnyH_ready (rs := [20]) (by kernel_rfl) (by simp) ?_
  refine' AllReadyH.cons ?hoc20r (fun K hK => ?stc20r) AllReadyH.nil
  case hoc20r => (simp only [List.getElem?_toArray, List.getElem?_cons_succ, List.getElem?_cons_zero]; rfl)
  have mk := M32.out
  go_simp
  refine hK.out _ _ (hS.alloc hS.size _) (fun hHeld => ?_)
  clear hK K
  try simp only [Act.put, List.setIfInBounds_toArray, List.set_cons_succ, List.set_cons_zero]
  have hz := heap_alloc_new w6 (.cells (ncells (zeros 32)) 5)
  have hn := Lib.hid (rfl : w6.heap.size = w6.heap.size)
  generalize (w6.alloc (.cells (ncells (zeros 32)) 5)) = w7 at *
  generalize w6.heap.size = q3 at *
  have HZ := Lib.hid hz
  have B67 := Lib.hid hHeld
  refine moreS (S' := fun W => Below w7.heap.size w7 W) (fun W hW => B67.out.trans (hW.mono B67.out.size)) _ _ _ _ ?_
  clear hS mk hHeld hz hn
  have hS := Below.refl w7.heap.size w7
  refine' wpAnyH_take (i := 21) ?h1x21r ?hsx21r ?hfx21r ?hrx21r ?hQx21r (Or.inl ⟨?hwx21r, ?hyx21r⟩) hS ?restx21r
  case h1x21r => (simp only [List.getElem?_toArray, List.getElem?_cons_succ, List.getElem?_cons_zero]; rfl)
  case hsx21r => kernel_rfl
  case hfx21r => kernel_rfl
  case hrx21r => kernel_rfl
  case hQx21r => exact fun _ _ _ h => h
  case hwx21r => rfl
  case hyx21r =>
    intro W hW
    have cs := SZ.out W q3 ((hW.block _ (blk_lt HZ.out)).trans HZ.out)
    go_simp
    try with_reducible rfl
  simp only [Act.put, List.setIfInBounds_toArray, List.set_cons_succ, List.set_cons_zero]
  refine' wpAnyH_take (i := 22) ?h1x22r ?hsx22r ?hfx22r ?hrx22r ?hQx22r (Or.inl ⟨?hwx22r, ?hyx22r⟩) hS ?restx22r
  case h1x22r => (simp only [List.getElem?_toArray, List.getElem?_cons_succ, List.getElem?_cons_zero]; rfl)
  case hsx22r => kernel_rfl
  case hfx22r => kernel_rfl
  case hrx22r => kernel_rfl
  case hQx22r => exact fun _ _ _ h => h
  case hwx22r => rfl
  case hyx22r =>
    intro W hW
    go_simp
    try with_reducible rfl
  simp only [Act.put, List.setIfInBounds_toArray, List.set_cons_succ, List.set_cons_zero]
  refine' wpAnyH_take (i := 23) ?h1x23r ?hsx23r ?hfx23r ?hrx23r ?hQx23r (Or.inl ⟨?hwx23r, ?hyx23r⟩) hS ?restx23r
  case h1x23r => (simp only [List.getElem?_toArray, List.getElem?_cons_succ, List.getElem?_cons_zero]; rfl)
  case hsx23r => kernel_rfl
  case hfx23r => kernel_rfl
  case hrx23r => kernel_rfl
  case hQx23r => exact fun _ _ _ h => h
  case hwx23r => rfl
  case hyx23r =>
    intro W hW
    go_simp
    try with_reducible rfl
  simp only [Act.put, List.setIfInBounds_toArray, List.set_cons_succ, List.set_cons_zero]
  refine' wpAnyH_take (i := 24) ?h1x24r ?hsx24r ?hfx24r ?hrx24r ?hQx24r (Or.inl ⟨?hwx24r, ?hyx24r⟩) hS ?restx24r
  case h1x24r => (simp only [List.getElem?_toArray, List.getElem?_cons_succ, List.getElem?_cons_zero]; rfl)
  case hsx24r => kernel_rfl
  case hfx24r => kernel_rfl
  case hrx24r => kernel_rfl
  case hQx24r => exact fun _ _ _ h => h
  case hwx24r => rfl
  case hyx24r =>
    intro W hW
    go_simp
    try with_reducible rfl
  simp only [Act.put, List.setIfInBounds_toArray, List.set_cons_succ, List.set_cons_zero]
  refine' wpAnyH_take (i := 25) ?h1x25r ?hsx25r ?hfx25r ?hrx25r ?hQx25r (Or.inl ⟨?hwx25r, ?hyx25r⟩) hS ?restx25r
  case h1x25r => (simp only [List.getElem?_toArray, List.getElem?_cons_succ, List.getElem?_cons_zero]; rfl)
  case hsx25r => kernel_rfl
  case hfx25r => kernel_rfl
  case hrx25r => kernel_rfl
  case hQx25r => exact fun _ _ _ h => h
  case hwx25r => rfl
  case hyx25r =>
    intro W hW
    go_simp
    try with_reducible rfl
  simp only [Act.put, List.setIfInBounds_toArray, List.set_cons_succ, List.set_cons_zero]
  refine' wpAnyH_take (i := 26) ?h1x26r ?hsx26r ?hfx26r ?hrx26r ?hQx26r (Or.inl ⟨?hwx26r, ?hyx26r⟩) hS ?restx26r
  case h1x26r => (simp only [List.getElem?_toArray, List.getElem?_cons_succ, List.getElem?_cons_zero]; rfl)
  case hsx26r => kernel_rfl
  case hfx26r => kernel_rfl
  case hrx26r => kernel_rfl
  case hQx26r => exact fun _ _ _ h => h
  case hwx26r => rfl
  case hyx26r =>
    intro W hW
    go_simp
    try with_reducible rfl
  simp only [Act.put, List.setIfInBounds_toArray, List.set_cons_succ, List.set_cons_zero]
  refine' wpAnyH_take (i := 27) ?h1x27r ?hsx27r ?hfx27r ?hrx27r ?hQx27r (Or.inl ⟨?hwx27r, ?hyx27r⟩) hS ?restx27r
  case h1x27r => (simp only [List.getElem?_toArray, List.getElem?_cons_succ, List.getElem?_cons_zero]; rfl)
  case hsx27r => kernel_rfl
  case hfx27r => kernel_rfl
  case hrx27r => kernel_rfl
  case hQx27r => exact fun _ _ _ h => h
  case hwx27r => rfl
  case hyx27r =>
    intro W hW
    have cs := SA.out W q (((B67.out.trans (hW.mono B67.out.size)).block _ (blk_lt R1.out)).trans R1.out)
    go_simp
    try with_reducible rfl
  simp only [Act.put, List.setIfInBounds_toArray, List.set_cons_succ, List.set_cons_zero]
  refine' wpAnyH_take (i := 28) ?h1x28r ?hsx28r ?hfx28r ?hrx28r ?hQx28r (Or.inl ⟨?hwx28r, ?hyx28r⟩) hS ?restx28r
  case h1x28r => (simp only [List.getElem?_toArray, List.getElem?_cons_succ, List.getElem?_cons_zero]; rfl)
  case hsx28r => kernel_rfl
  case hfx28r => kernel_rfl
  case hrx28r => kernel_rfl
  case hQx28r => exact fun _ _ _ h => h
  case hwx28r => rfl
  case hyx28r =>
    intro W hW
    go_simp
    try with_reducible rfl
  simp only [Act.put, List.setIfInBounds_toArray, List.set_cons_succ, List.set_cons_zero]
  refine' wpAnyH_take (i := 29) ?h1x29r ?hsx29r ?hfx29r ?hrx29r ?hQx29r (Or.inl ⟨?hwx29r, ?hyx29r⟩) hS ?restx29r
  case h1x29r => (simp only [List.getElem?_toArray, List.getElem?_cons_succ, List.getElem?_cons_zero]; rfl)
  case hsx29r => kernel_rfl
  case hfx29r => kernel_rfl
  case hrx29r => kernel_rfl
  case hQx29r => exact fun _ _ _ h => h
  case hwx29r => rfl
  case hyx29r =>
    intro W hW
    go_simp
    try with_reducible rfl
  simp only [Act.put, List.setIfInBounds_toArray, List.set_cons_succ, List.set_cons_zero]
  refine' wpAnyH_take (i := 30) ?h1x30r ?hsx30r ?hfx30r ?hrx30r ?hQx30r (Or.inl ⟨?hwx30r, ?hyx30r⟩) hS ?restx30r
  case h1x30r => (simp only [List.getElem?_toArray, List.getElem?_cons_succ, List.getElem?_cons_zero]; rfl)
  case hsx30r => kernel_rfl
  case hfx30r => kernel_rfl
  case hrx30r => kernel_rfl
  case hQx30r => exact fun _ _ _ h => h
  case hwx30r => rfl
  case hyx30r =>
    intro W hW
    have cs := SBB.out W q (((B67.out.trans (hW.mono B67.out.size)).block _ (blk_lt R1.out)).trans R1.out)
    go_simp
    try with_reducible rfl
  simp only [Act.put, List.setIfInBounds_toArray, List.set_cons_succ, List.set_cons_zero]
  refine' wpAnyH_take (i := 31) ?h1x31r ?hsx31r ?hfx31r ?hrx31r ?hQx31r (Or.inl ⟨?hwx31r, ?hyx31r⟩) hS ?restx31r
  case h1x31r => (simp only [List.getElem?_toArray, List.getElem?_cons_succ, List.getElem?_cons_zero]; rfl)
  case hsx31r => kernel_rfl
  case hfx31r => kernel_rfl
  case hrx31r => kernel_rfl
  case hQx31r => exact fun _ _ _ h => h
  case hwx31r => rfl
  case hyx31r =>
    intro W hW
    go_simp
    try with_reducible rfl
  simp only [Act.put, List.setIfInBounds_toArray, List.set_cons_succ, List.set_cons_zero]
  refine' wpAnyH_take (i := 32) ?h1x32r ?hsx32r ?hfx32r ?hrx32r ?hQx32r (Or.inl ⟨?hwx32r, ?hyx32r⟩) hS ?restx32r
  case h1x32r => (simp only [List.getElem?_toArray, List.getElem?_cons_succ, List.getElem?_cons_zero]; rfl)
  case hsx32r => kernel_rfl
  case hfx32r => kernel_rfl
  case hrx32r => kernel_rfl
  case hQx32r => exact fun _ _ _ h => h
  case hwx32r => rfl
  case hyx32r =>
    intro W hW
    go_simp
    try with_reducible rfl
  simp only [Act.put, List.setIfInBounds_toArray, List.set_cons_succ, List.set_cons_zero]
  refine' wpAnyH_take (i := 33) ?h1x33r ?hsx33r ?hfx33r ?hrx33r ?hQx33r (Or.inl ⟨?hwx33r, ?hyx33r⟩) hS ?restx33r
  case h1x33r => (simp only [List.getElem?_toArray, List.getElem?_cons_succ, List.getElem?_cons_zero]; rfl)
  case hsx33r => kernel_rfl
  case hfx33r => kernel_rfl
  case hrx33r => kernel_rfl
  case hQx33r => exact fun _ _ _ h => h
  case hwx33r => rfl
  case hyx33r =>
    intro W hW
    go_simp
    try with_reducible rfl
  simp only [Act.put, List.setIfInBounds_toArray, List.set_cons_succ, List.set_cons_zero]
  refine' wpAnyH_take (i := 34) ?h1x34r ?hsx34r ?hfx34r ?hrx34r ?hQx34r (Or.inl ⟨?hwx34r, ?hyx34r⟩) hS ?restx34r
  case h1x34r => (simp only [List.getElem?_toArray, List.getElem?_cons_succ, List.getElem?_cons_zero]; rfl)
  case hsx34r => kernel_rfl
  case hfx34r => kernel_rfl
  case hrx34r => kernel_rfl
  case hQx34r => exact fun _ _ _ h => h
  case hwx34r => rfl
  case hyx34r =>
    intro W hW
    go_simp
    try with_reducible rfl
  simp only [Act.put, List.setIfInBounds_toArray, List.set_cons_succ, List.set_cons_zero]
  refine' wpAnyH_take (i := 35) ?h1x35r ?hsx35r ?hfx35r ?hrx35r ?hQx35r (Or.inl ⟨?hwx35r, ?hyx35r⟩) hS ?restx35r
  case h1x35r => (simp only [List.getElem?_toArray, List.getElem?_cons_succ, List.getElem?_cons_zero]; rfl)
  case hsx35r => kernel_rfl
  case hfx35r => kernel_rfl
  case hrx35r => kernel_rfl
  case hQx35r => exact fun _ _ _ h => h
  case hwx35r => rfl
  case hyx35r =>
    intro W hW
    go_simp
    try with_reducible rfl
  simp only [Act.put, List.setIfInBounds_toArray, List.set_cons_succ, List.set_cons_zero]
  refine' wpAnyH_take (i := 36) ?h1x36r ?hsx36r ?hfx36r ?hrx36r ?hQx36r (Or.inl ⟨?hwx36r, ?hyx36r⟩) hS ?restx36r
  case h1x36r => (simp only [List.getElem?_toArray, List.getElem?_cons_succ, List.getElem?_cons_zero]; rfl)
  case hsx36r => kernel_rfl
  case hfx36r => kernel_rfl
  case hrx36r => kernel_rfl
  case hQx36r => exact fun _ _ _ h => h
  case hwx36r => rfl
  case hyx36r =>
    intro W hW
    go_simp
    try with_reducible rfl
  simp only [Act.put, List.setIfInBounds_toArray, List.set_cons_succ, List.set_cons_zero]
  refine' wpAnyH_take (i := 37) ?h1x37r ?hsx37r ?hfx37r ?hrx37r ?hQx37r (Or.inl ⟨?hwx37r, ?hyx37r⟩) hS ?restx37r
  case h1x37r => (simp only [List.getElem?_toArray, List.getElem?_cons_succ, List.getElem?_cons_zero]; rfl)
  case hsx37r => kernel_rfl
  case hfx37r => kernel_rfl
  case hrx37r => kernel_rfl
  case hQx37r => exact fun _ _ _ h => h
  case hwx37r => rfl
  case hyx37r =>
    intro W hW
    go_simp
    try with_reducible rfl
  simp only [Act.put, List.setIfInBounds_toArray, List.set_cons_zero]
  refine wpAnyH_done (by kernel_rfl) ?_ _
  go_wp2_with fail
  go_ret
  exact ⟨rfl, B1.out.trans ((B67.out.trans (hS.mono B67.out.size)).mono B1.out.size)⟩
end Go.Proofs.Ytekffhopmicalaa
