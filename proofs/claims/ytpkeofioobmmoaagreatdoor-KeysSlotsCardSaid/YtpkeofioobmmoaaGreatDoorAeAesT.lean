/-
  Contracts of the functions that the statements of package aes go through: a block turned. Condition: the numbers are bytes.
-/
import Derived.Test.YtpkeofioobmmoaaGreatDoorAeAesH
import Derived.Orders
import Derived.Deep.DeepCutAuto
namespace Go.Proofs.YtpkeofioobmmoaaGreatDoor.ae
open Go.RowKit
set_option maxRecDepth 100000 in
set_option maxHeartbeats 8000000 in
theorem turnC (F b : List Nat) (hF : Bts 240 F) (hb : Bts 16 b) (gc : Nat) (w : World) (hw : ∀ j, j < 240 → w.cell? ⟨gc, j, none⟩ = some (.int .u8 (at_ F j : Nat))) (hx : ∀ j, j < 256 → w.cell? ⟨gc, 240 + j, none⟩ = some (.int .u8 (at_ bxs j : Nat))) :
    Calls Tryz.prog 59 #[.pointer (some ⟨gc, 0, none⟩), .agg (ncells b)] w fun e w' => e = .returned (.agg (ncells (turn (rkf F) b))) ∧ Below w.heap.size w w' := by
  have zz := zero47
  obtain ⟨Z, hZ⟩ : ∃ Z, Z = ncells (zeros 16) := ⟨_, rfl⟩
  rw [← hZ] at zz
  have ZL : Hid (∀ l : List Nat, l.length = 16 → Z.size = (ncells l).size) := fun l hl => by rw [hZ]; exact z47 hl
  have LG : Hid (gc < w.heap.size) := World.block_lt_of_cell? w _ (hw 0 (by omega))
  have HFB := Lib.hid hF
  have HBB := Lib.hid hb
  have RK : Hid (∀ (n : Nat) (W : World) (S : List Nat), n ≤ 14 → TS w Z [2, 3, 1, 1] W S → Calls Tryz.prog 64 #[.pointer (some ⟨gc, 0, none⟩), .int .i64 n] W fun e w' => e = .returned (.agg (ncells (rkf F n))) ∧ Below W.heap.size W w') :=
    fun n W S hn h => roundKey F gc n hn W (fun j hj => (h.2.2.2.2.cell (p := ⟨gc, j, none⟩) LG.out).trans (hw j hj))
  have RK0 : Hid (∀ (W : World) (S : List Nat), TS w Z [2, 3, 1, 1] W S → Calls Tryz.prog 64 #[.pointer (some ⟨gc, 0, none⟩), .int .i64 0] W fun e w' => e = .returned (.agg (ncells (rkf F 0))) ∧ Below W.heap.size W w') :=
    fun W S h => RK.out 0 W S (by omega) h
  have RP : Hid (∀ (W : World) (S : List Nat), TS w Z [2, 3, 1, 1] W S → Bts 16 S → Calls Tryz.prog 65 #[.agg (ncells S), .pointer (some ⟨gc, 240, none⟩)] W fun e w' => e = .returned (.agg (ncells (sb bxs S))) ∧ Below W.heap.size W w') :=
    fun W S h hS => replaced S bxs hS bxs_bts gc 240 W (fun j hj => (h.2.2.2.2.cell (p := ⟨gc, 240 + j, none⟩) LG.out).trans (hx j hj))
  have CL : Hid (∀ (W : World) (S : List Nat), TS w Z [2, 3, 1, 1] W S → Bts 16 S → Calls Tryz.prog 84 #[.agg (ncells S), .pointer (some ⟨w.heap.size + 1 + 1 + 1, 0, none⟩)] W fun e w' => e = .returned (.agg (ncells (mx 2 3 1 1 S))) ∧ Below W.heap.size W w') :=
    fun W S h hS => cols 2 3 1 1 (by omega) (by omega) (by omega) (by omega) S hS _ _ 4 W h.cap (h.fac rfl)
  obtain ⟨W1, hW1⟩ : ∃ W1, W1 = (((w.alloc (.cells (ncells b) 77)).alloc (.cells Z 77)).alloc (.cells #[.int .u8 2, .int .u8 3, .int .u8 1, .int .u8 1] 5)).alloc (.cells #[.slice (some ⟨w.heap.size + 1 + 1, 0, none⟩) 4 4] 31) := ⟨_, rfl⟩
  have H0 : Hid (TS w Z [2, 3, 1, 1] W1 b) := by
    rw [hW1]
    refine ⟨?_, ?_, ?_, ?_, ((((Below.refl _ _).alloc (Nat.le_refl _) _).alloc (by simp) _).alloc (by simp; omega) _).alloc (by simp; omega) _⟩
    · rw [Below.heap_alloc _ _ _ (by simp; omega), Below.heap_alloc _ _ _ (by simp; omega), Below.heap_alloc _ _ _ (by simp)]; exact heap_alloc_new w _
    · rw [Below.heap_alloc _ _ _ (by simp <;> omega), Below.heap_alloc _ _ _ (by simp)]; exact heap_alloc2_new w _ _
    · rw [show ncells [2, 3, 1, 1] = #[.int .u8 2, .int .u8 3, .int .u8 1, .int .u8 1] from rfl, Below.heap_alloc _ _ _ (by simp)]
      have := heap_alloc_new ((w.alloc (.cells (ncells b) 77)).alloc (.cells Z 77)) (.cells #[.int .u8 2, .int .u8 3, .int .u8 1, .int .u8 1] 5)
      simpa using this
    · have := heap_alloc_new (((w.alloc (.cells (ncells b) 77)).alloc (.cells Z 77)).alloc (.cells #[.int .u8 2, .int .u8 3, .int .u8 1, .int .u8 1] 5)) (.cells #[.slice (some ⟨w.heap.size + 1 + 1, 0, none⟩) 4 4] 31)
      simpa using this
  have HW1 := Lib.hid hW1
  clear hZ hF hb hw hx hW1
  go_enter Tryz.func59, Tryz.ntmps59
  go_wp2_with (refine (columns _ _ _ _).mono ?_; rintro e w1 ⟨rfl, rfl⟩)
  rw [← HW1.out]
  go_upto_region 4 with fail
  go_cut [] from 12 to 15 (fun wx => TS w Z [2, 3, 1, 1] wx (trn (rkf F) b 0))
  case first =>
    have H1 := Lib.hid (H0.out.drew)
    refine wp_region_any (by kernel_rfl) ?_
    change wpAny _ _ _ _ _ _ _ (World.drew _)
    refine' wpAny_take (i := 1) ?h1x1p ?hsx1p ?hfx1p ?hrx1p ?hQx1p (Or.inl ⟨?hwx1p, ?hyx1p⟩) ?restx1p
    case h1x1p => (simp only [List.getElem?_toArray, List.getElem?_cons_succ, List.getElem?_cons_zero]; rfl)
    case hsx1p | hfx1p | hrx1p => kernel_rfl
    case hQx1p => exact fun _ _ _ h => h
    case hwx1p => rfl
    case hyx1p =>
      intro W
      go_simp
      try with_reducible rfl
    simp only [Act.put, List.setIfInBounds_toArray, List.set_cons_succ, List.set_cons_zero]
    refine wpAny_ready (rs := [0, 2]) (by kernel_rfl) (by simp) ?_
    refine' AllReady.cons ?hoc0p (fun K hK => ?stc0p) (AllReady.cons ?hoc2p (fun K hK => ?stc2p) AllReady.nil)
    case hoc0p => (simp only [List.getElem?_toArray, List.getElem?_cons_zero]; rfl)
    case hoc2p => (simp only [List.getElem?_toArray, List.getElem?_cons_succ, List.getElem?_cons_zero]; rfl)
    case stc0p =>
      rw [if_pos (by rfl)]
      refine wp_load_row 77 (.tmp 3) rfl w.heap.size rfl 77 _ (0, 0) _ H1.out.1 Tryz.underlying77 rfl (i47 HBB.out.1) ?_
      refine hK _ _ ?_
      clear hK K
      try simp only [Act.put, List.setIfInBounds_toArray, List.set_cons_succ, List.set_cons_zero]
      refine wpAny_ready (rs := [2]) (by kernel_rfl) (by simp) ?_
      refine' AllReady.cons ?hoc2pa (fun K hK => ?stc2pa) AllReady.nil
      case hoc2pa => (simp only [List.getElem?_toArray, List.getElem?_cons_succ, List.getElem?_cons_zero]; rfl)
      go_simp
      refine (RK0.out _ _ H1.out).mono ?_
      rintro e w2 ⟨rfl, hb⟩
      have H2 := Lib.hid (H1.out.below hb)
      clear hb
      go_wp2_with fail
      try refine hK _ _ ?_
      try clear hK K
      try simp only [Act.put, List.setIfInBounds_toArray, List.set_cons_succ, List.set_cons_zero]
      refine wpAny_ready (rs := [3]) (by kernel_rfl) (by simp) ?_
      refine' AllReady.cons ?hoc3pa (fun K hK => ?stc3pa) AllReady.nil
      case hoc3pa => (simp only [List.getElem?_toArray, List.getElem?_cons_succ, List.getElem?_cons_zero]; rfl)
      go_simp
      refine (joined _ _ HBB.out (rkf_bts HFB.out 0) _).mono ?_
      rintro e w3 ⟨rfl, hb⟩
      have H3 := Lib.hid (H2.out.below hb)
      clear hb
      go_wp2_with fail
      try refine hK _ _ ?_
      try clear hK K
      try simp only [Act.put, List.setIfInBounds_toArray, List.set_cons_succ, List.set_cons_zero]
      refine wpAny_ready (rs := [4]) (by kernel_rfl) (by simp) ?_
      refine' AllReady.cons ?hoc4pa (fun K hK => ?stc4pa) AllReady.nil
      case hoc4pa => (simp only [List.getElem?_toArray, List.getElem?_cons_succ, List.getElem?_cons_zero]; rfl)
      rw [if_pos (by rfl)]
      refine wp_store_row 77 (.tmp 3) (.tmp 15) rfl w.heap.size (ncells (jn b (rkf F 0))) rfl rfl 77 _ H3.out.1 (i47 (jn_bts HBB.out (rkf_bts HFB.out 0)).1) (ns_eq HBB.out.1 (jn_bts HBB.out (rkf_bts HFB.out 0)).1) (none_ _) ?_
      refine hK _ _ ?_
      clear hK K
      have H4 := Lib.hid (H3.out.store (jn b (rkf F 0)))
      try simp only [Act.put]
      refine wpAny_done (by kernel_rfl) ?_ _
      go_wp2_with fail
      go_meet
      exact H4.out
    case stc2p =>
      go_simp
      refine (RK0.out _ _ H1.out).mono ?_
      rintro e w2 ⟨rfl, hb⟩
      have H2 := Lib.hid (H1.out.below hb)
      clear hb
      go_wp2_with fail
      try refine hK _ _ ?_
      try clear hK K
      try simp only [Act.put, List.setIfInBounds_toArray, List.set_cons_succ, List.set_cons_zero]
      refine wpAny_ready (rs := [0]) (by kernel_rfl) (by simp) ?_
      refine' AllReady.cons ?hoc0pb (fun K hK => ?stc0pb) AllReady.nil
      case hoc0pb => (simp only [List.getElem?_toArray, List.getElem?_cons_zero]; rfl)
      rw [if_pos (by rfl)]
      refine wp_load_row 77 (.tmp 3) rfl w.heap.size rfl 77 _ (0, 0) _ H2.out.1 Tryz.underlying77 rfl (i47 HBB.out.1) ?_
      refine hK _ _ ?_
      clear hK K
      try simp only [Act.put, List.setIfInBounds_toArray, List.set_cons_succ, List.set_cons_zero]
      refine wpAny_ready (rs := [3]) (by kernel_rfl) (by simp) ?_
      refine' AllReady.cons ?hoc3pb (fun K hK => ?stc3pb) AllReady.nil
      case hoc3pb => (simp only [List.getElem?_toArray, List.getElem?_cons_succ, List.getElem?_cons_zero]; rfl)
      go_simp
      refine (joined _ _ HBB.out (rkf_bts HFB.out 0) _).mono ?_
      rintro e w3 ⟨rfl, hb⟩
      have H3 := Lib.hid (H2.out.below hb)
      clear hb
      go_wp2_with fail
      try refine hK _ _ ?_
      try clear hK K
      try simp only [Act.put, List.setIfInBounds_toArray, List.set_cons_succ, List.set_cons_zero]
      refine wpAny_ready (rs := [4]) (by kernel_rfl) (by simp) ?_
      refine' AllReady.cons ?hoc4pb (fun K hK => ?stc4pb) AllReady.nil
      case hoc4pb => (simp only [List.getElem?_toArray, List.getElem?_cons_succ, List.getElem?_cons_zero]; rfl)
      rw [if_pos (by rfl)]
      refine wp_store_row 77 (.tmp 3) (.tmp 15) rfl w.heap.size (ncells (jn b (rkf F 0))) rfl rfl 77 _ H3.out.1 (i47 (jn_bts HBB.out (rkf_bts HFB.out 0)).1) (ns_eq HBB.out.1 (jn_bts HBB.out (rkf_bts HFB.out 0)).1) (none_ _) ?_
      refine hK _ _ ?_
      clear hK K
      have H4 := Lib.hid (H3.out.store (jn b (rkf F 0)))
      try simp only [Act.put]
      refine wpAny_done (by kernel_rfl) ?_ _
      go_wp2_with fail
      go_meet
      exact H4.out
  case rest =>
    clear H0 HW1
    have H0 := Lib.hid hcut
    clear hcut
    clear W1
    go_wp2_with fail
    go_loopw [6, 16] (fun _ vi wr => ∃ i : Nat, i ≤ 14 ∧ vi = .int .i64 i ∧ TS w Z [2, 3, 1, 1] wr (trn (rkf F) b i)) (fun _ vi _ => 14 - (intOf vi).toNat)
    case atStart => exact ⟨0, by omega, rfl, H0.out⟩
    case round =>
      clear H0
      obtain ⟨i, hi, rfl, hts⟩ := hrel
      by_cases hlt : i < 14
      · have hi14 : (i : Int) < 14 := by omega
        have SB : Hid (Bts 16 (trn (rkf F) b i)) := trn_bts (rkf_bts HFB.out) HBB.out i
        have SN : Hid (trn (rkf F) b (i + 1) = jn (cond (decide (i = 13)) (mv 1 (sb bxs (trn (rkf F) b i))) (mx 2 3 1 1 (mv 1 (sb bxs (trn (rkf F) b i))))) (rkf F (i + 1))) := rfl
        generalize trn (rkf F) b i = S at *
        have MB : Hid (Bts 16 (mv 1 (sb bxs S))) := mv_bts 1 (sb_bts bxs_bts)
        have XB : Hid (Bts 16 (mx 2 3 1 1 (mv 1 (sb bxs S)))) := mx_bts _ _ _ _ MB.out
        have KB : Hid (Bts 16 (rkf F (i + 1))) := rkf_bts HFB.out _
        have H1 := Lib.hid hts.drew
        clear hts
        go_wp2_with fail
        refine wp_region_any (by kernel_rfl) ?_
        change wpAny _ _ _ _ _ _ _ (World.drew _)
        refine' wpAny_take (i := 1) ?h1x1q ?hsx1q ?hfx1q ?hrx1q ?hQx1q (Or.inl ⟨?hwx1q, ?hyx1q⟩) ?restx1q
        case h1x1q => (simp only [List.getElem?_toArray, List.getElem?_cons_succ, List.getElem?_cons_zero]; rfl)
        case hsx1q | hfx1q | hrx1q => kernel_rfl
        case hQx1q => exact fun _ _ _ h => h
        case hwx1q => rfl
        case hyx1q =>
          intro W
          go_simp
          try with_reducible rfl
        simp only [Act.put, List.setIfInBounds_toArray, List.set_cons_succ, List.set_cons_zero]
        refine' wpAny_take (i := 2) ?h1x2q ?hsx2q ?hfx2q ?hrx2q ?hQx2q (Or.inl ⟨?hwx2q, ?hyx2q⟩) ?restx2q
        case h1x2q => (simp only [List.getElem?_toArray, List.getElem?_cons_succ, List.getElem?_cons_zero]; rfl)
        case hsx2q | hfx2q | hrx2q => kernel_rfl
        case hQx2q => exact fun _ _ _ h => h
        case hwx2q => rfl
        case hyx2q =>
          intro W
          go_simp
          try with_reducible rfl
        simp only [Act.put, List.setIfInBounds_toArray, List.set_cons_succ, List.set_cons_zero]
        refine' wpAny_take (i := 3) ?h1x3q ?hsx3q ?hfx3q ?hrx3q ?hQx3q (Or.inl ⟨?hwx3q, ?hyx3q⟩) ?restx3q
        case h1x3q => (simp only [List.getElem?_toArray, List.getElem?_cons_succ, List.getElem?_cons_zero]; rfl)
        case hsx3q | hfx3q | hrx3q => kernel_rfl
        case hQx3q => exact fun _ _ _ h => h
        case hwx3q => rfl
        case hyx3q =>
          intro W
          go_simp
          try with_reducible rfl
        simp only [Act.put, List.setIfInBounds_toArray, List.set_cons_succ, List.set_cons_zero]
        refine wpAny_ready (rs := [0]) (by kernel_rfl) (by simp) ?_
        refine' AllReady.cons ?hoc0q (fun K hK => ?stc0q) AllReady.nil
        case hoc0q => (simp only [List.getElem?_toArray, List.getElem?_cons_zero]; rfl)
        rw [if_pos (by rfl)]
        refine wp_load_row 77 (.tmp 3) rfl w.heap.size rfl 77 _ (0, 0) _ H1.out.1 Tryz.underlying77 rfl (i47 SB.out.1) ?_
        refine hK _ _ ?_
        clear hK K
        try simp only [Act.put, List.setIfInBounds_toArray, List.set_cons_succ, List.set_cons_zero]
        refine wpAny_ready (rs := [4]) (by kernel_rfl) (by simp) ?_
        refine' AllReady.cons ?hoc4q (fun K hK => ?stc4q) AllReady.nil
        case hoc4q => (simp only [List.getElem?_toArray, List.getElem?_cons_succ, List.getElem?_cons_zero]; rfl)
        go_simp
        refine (RP.out _ _ H1.out SB.out).mono ?_
        rintro e w2 ⟨rfl, hb⟩
        have H2 := Lib.hid (H1.out.below hb)
        clear hb
        go_wp2_with fail
        try refine hK _ _ ?_
        try clear hK K
        try simp only [Act.put, List.setIfInBounds_toArray, List.set_cons_succ, List.set_cons_zero]
        refine wpAny_ready (rs := [5]) (by kernel_rfl) (by simp) ?_
        refine' AllReady.cons ?hoc5q (fun K hK => ?stc5q) AllReady.nil
        case hoc5q => (simp only [List.getElem?_toArray, List.getElem?_cons_succ, List.getElem?_cons_zero]; rfl)
        go_simp
        refine (moved1 _ (sb_bts bxs_bts) _).mono ?_
        rintro e w3 ⟨rfl, hb⟩
        have H3 := Lib.hid (H2.out.below hb)
        clear hb
        go_wp2_with fail
        try refine hK _ _ ?_
        try clear hK K
        try simp only [Act.put, List.setIfInBounds_toArray, List.set_cons_succ, List.set_cons_zero]
        refine wpAny_ready (rs := [6]) (by kernel_rfl) (by simp) ?_
        refine' AllReady.cons ?hoc6q (fun K hK => ?stc6q) AllReady.nil
        case hoc6q => (simp only [List.getElem?_toArray, List.getElem?_cons_succ, List.getElem?_cons_zero]; rfl)
        rw [if_pos (by rfl)]
        refine wp_store_row 77 (.tmp 3) (.tmp 24) rfl w.heap.size (ncells (mv 1 (sb bxs S))) rfl rfl 77 _ H3.out.1 (i47 MB.out.1) (ns_eq SB.out.1 MB.out.1) (none_ _) ?_
        refine hK _ _ ?_
        clear hK K
        have H4 := Lib.hid (H3.out.store (mv 1 (sb bxs S)))
        try simp only [Act.put]
        refine wpAny_done (by kernel_rfl) ?_ _
        have HM := Lib.hid H4.out
        clear H1 H2 H3 H4
        by_cases hl : i = 13
        · have SN2 : Hid (trn (rkf F) b (i + 1) = jn (mv 1 (sb bxs S)) (rkf F (i + 1))) := by show _ = _; rw [SN.out, hl]; rfl
          have hq : ¬ (i : Int) + 1 < 14 := by omega
          have ew : IntKind.i64.wrap ((i : Int) + 1) = ((i + 1 : Nat) : Int) := by rw [IntWalk.i64_in _ (by omega)]; omega
          have RKN := Lib.hid (fun (W : World) (S' : List Nat) (h : TS w Z [2, 3, 1, 1] W S') => RK.out (i + 1) W S' (by omega) h)
          obtain ⟨KK, hKK⟩ : ∃ K, K = rkf F (i + 1) := ⟨_, rfl⟩
          rw [← hKK] at RKN KB SN2
          clear hKK SN RK RP CL
          clear hl
          go_wp2_with fail
          have H1 := Lib.hid (HM.out.drew)
          clear HM
          refine wp_region_any (by kernel_rfl) ?_
          change wpAny _ _ _ _ _ _ _ (World.drew _)
          refine' wpAny_take (i := 1) ?h1x1c ?hsx1c ?hfx1c ?hrx1c ?hQx1c (Or.inl ⟨?hwx1c, ?hyx1c⟩) ?restx1c
          case h1x1c => (simp only [List.getElem?_toArray, List.getElem?_cons_succ, List.getElem?_cons_zero]; rfl)
          case hsx1c | hfx1c | hrx1c => kernel_rfl
          case hQx1c => exact fun _ _ _ h => h
          case hwx1c => rfl
          case hyx1c =>
            intro W
            go_simp
            try with_reducible rfl
          simp only [Act.put, List.setIfInBounds_toArray, List.set_cons_succ, List.set_cons_zero]
          refine' wpAny_take (i := 2) ?h1x2c ?hsx2c ?hfx2c ?hrx2c ?hQx2c (Or.inl ⟨?hwx2c, ?hyx2c⟩) ?restx2c
          case h1x2c => (simp only [List.getElem?_toArray, List.getElem?_cons_succ, List.getElem?_cons_zero]; rfl)
          case hsx2c | hfx2c | hrx2c => kernel_rfl
          case hQx2c => exact fun _ _ _ h => h
          case hwx2c => rfl
          case hyx2c =>
            intro W
            go_simp
            try with_reducible rfl
          simp only [Act.put, List.setIfInBounds_toArray, List.set_cons_succ, List.set_cons_zero]
          refine' wpAny_take (i := 3) ?h1x3c ?hsx3c ?hfx3c ?hrx3c ?hQx3c (Or.inl ⟨?hwx3c, ?hyx3c⟩) ?restx3c
          case h1x3c => (simp only [List.getElem?_toArray, List.getElem?_cons_succ, List.getElem?_cons_zero]; rfl)
          case hsx3c | hfx3c | hrx3c => kernel_rfl
          case hQx3c => exact fun _ _ _ h => h
          case hwx3c => rfl
          case hyx3c =>
            intro W
            go_simp
            try with_reducible rfl
          simp only [Act.put, List.setIfInBounds_toArray, List.set_cons_succ, List.set_cons_zero]
          refine wpAny_ready (rs := [0, 4]) (by kernel_rfl) (by simp) ?_
          refine' AllReady.cons ?hoc0c (fun K hK => ?stc0c) (AllReady.cons ?hoc4c (fun K hK => ?stc4c) AllReady.nil)
          case hoc0c => (simp only [List.getElem?_toArray, List.getElem?_cons_zero]; rfl)
          case hoc4c => (simp only [List.getElem?_toArray, List.getElem?_cons_succ, List.getElem?_cons_zero]; rfl)
          case stc0c =>
            rw [if_pos (by rfl)]
            refine wp_load_row 77 (.tmp 3) rfl w.heap.size rfl 77 _ (0, 0) _ H1.out.1 Tryz.underlying77 rfl (i47 MB.out.1) ?_
            refine hK _ _ ?_
            clear hK K
            try simp only [Act.put, List.setIfInBounds_toArray, List.set_cons_succ, List.set_cons_zero]
            refine wpAny_ready (rs := [4]) (by kernel_rfl) (by simp) ?_
            refine' AllReady.cons ?hoc4ca (fun K hK => ?stc4ca) AllReady.nil
            case hoc4ca => (simp only [List.getElem?_toArray, List.getElem?_cons_succ, List.getElem?_cons_zero]; rfl)
            go_simp
            refine (RKN.out _ _ H1.out).mono ?_
            rintro e w2 ⟨rfl, hb⟩
            have H2 := Lib.hid (H1.out.below hb)
            clear hb
            go_wp2_with fail
            try refine hK _ _ ?_
            try clear hK K
            try simp only [Act.put, List.setIfInBounds_toArray, List.set_cons_succ, List.set_cons_zero]
            refine wpAny_ready (rs := [5]) (by kernel_rfl) (by simp) ?_
            refine' AllReady.cons ?hoc5ca (fun K hK => ?stc5ca) AllReady.nil
            case hoc5ca => (simp only [List.getElem?_toArray, List.getElem?_cons_succ, List.getElem?_cons_zero]; rfl)
            go_simp
            refine (joined _ _ MB.out KB.out _).mono ?_
            rintro e w3 ⟨rfl, hb⟩
            have H3 := Lib.hid (H2.out.below hb)
            clear hb
            go_wp2_with fail
            try refine hK _ _ ?_
            try clear hK K
            try simp only [Act.put, List.setIfInBounds_toArray, List.set_cons_succ, List.set_cons_zero]
            refine wpAny_ready (rs := [6]) (by kernel_rfl) (by simp) ?_
            refine' AllReady.cons ?hoc6ca (fun K hK => ?stc6ca) AllReady.nil
            case hoc6ca => (simp only [List.getElem?_toArray, List.getElem?_cons_succ, List.getElem?_cons_zero]; rfl)
            rw [if_pos (by rfl)]
            refine wp_store_row 77 (.tmp 3) (.tmp 36) rfl w.heap.size (ncells (jn (mv 1 (sb bxs S)) KK)) rfl rfl 77 _ H3.out.1 (i47 (jn_bts MB.out KB.out).1) (ns_eq MB.out.1 (jn_bts MB.out KB.out).1) (none_ _) ?_
            refine hK _ _ ?_
            clear hK K
            have H4 := Lib.hid (H3.out.store (jn (mv 1 (sb bxs S)) KK))
            try simp only [Act.put]
            refine wpAny_done (by kernel_rfl) ?_ _
            go_wp2_with fail
            go_roundw
            case rel =>
              refine ⟨i + 1, by omega, by go_num, ?_⟩
              rw [SN2.out]
              exact H4.out
            case measure => simp [intOf]; omega
          case stc4c =>
            go_simp
            refine (RKN.out _ _ H1.out).mono ?_
            rintro e w2 ⟨rfl, hb⟩
            have H2 := Lib.hid (H1.out.below hb)
            clear hb
            go_wp2_with fail
            try refine hK _ _ ?_
            try clear hK K
            try simp only [Act.put, List.setIfInBounds_toArray, List.set_cons_succ, List.set_cons_zero]
            refine wpAny_ready (rs := [0]) (by kernel_rfl) (by simp) ?_
            refine' AllReady.cons ?hoc0cb (fun K hK => ?stc0cb) AllReady.nil
            case hoc0cb => (simp only [List.getElem?_toArray, List.getElem?_cons_zero]; rfl)
            rw [if_pos (by rfl)]
            refine wp_load_row 77 (.tmp 3) rfl w.heap.size rfl 77 _ (0, 0) _ H2.out.1 Tryz.underlying77 rfl (i47 MB.out.1) ?_
            refine hK _ _ ?_
            clear hK K
            try simp only [Act.put, List.setIfInBounds_toArray, List.set_cons_succ, List.set_cons_zero]
            refine wpAny_ready (rs := [5]) (by kernel_rfl) (by simp) ?_
            refine' AllReady.cons ?hoc5cb (fun K hK => ?stc5cb) AllReady.nil
            case hoc5cb => (simp only [List.getElem?_toArray, List.getElem?_cons_succ, List.getElem?_cons_zero]; rfl)
            go_simp
            refine (joined _ _ MB.out KB.out _).mono ?_
            rintro e w3 ⟨rfl, hb⟩
            have H3 := Lib.hid (H2.out.below hb)
            clear hb
            go_wp2_with fail
            try refine hK _ _ ?_
            try clear hK K
            try simp only [Act.put, List.setIfInBounds_toArray, List.set_cons_succ, List.set_cons_zero]
            refine wpAny_ready (rs := [6]) (by kernel_rfl) (by simp) ?_
            refine' AllReady.cons ?hoc6cb (fun K hK => ?stc6cb) AllReady.nil
            case hoc6cb => (simp only [List.getElem?_toArray, List.getElem?_cons_succ, List.getElem?_cons_zero]; rfl)
            rw [if_pos (by rfl)]
            refine wp_store_row 77 (.tmp 3) (.tmp 36) rfl w.heap.size (ncells (jn (mv 1 (sb bxs S)) KK)) rfl rfl 77 _ H3.out.1 (i47 (jn_bts MB.out KB.out).1) (ns_eq MB.out.1 (jn_bts MB.out KB.out).1) (none_ _) ?_
            refine hK _ _ ?_
            clear hK K
            have H4 := Lib.hid (H3.out.store (jn (mv 1 (sb bxs S)) KK))
            try simp only [Act.put]
            refine wpAny_done (by kernel_rfl) ?_ _
            go_wp2_with fail
            go_roundw
            case rel =>
              refine ⟨i + 1, by omega, by go_num, ?_⟩
              rw [SN2.out]
              exact H4.out
            case measure => simp [intOf]; omega
        · have SN2 : Hid (trn (rkf F) b (i + 1) = jn (mx 2 3 1 1 (mv 1 (sb bxs S))) (rkf F (i + 1))) := by
            show _ = _
            rw [SN.out, show decide (i = 13) = false by simpa using hl]; rfl
          have hq : (i : Int) + 1 < 14 := by omega
          have ew : IntKind.i64.wrap ((i : Int) + 1) = ((i + 1 : Nat) : Int) := by rw [IntWalk.i64_in _ (by omega)]; omega
          have RKN := Lib.hid (fun (W : World) (S' : List Nat) (h : TS w Z [2, 3, 1, 1] W S') => RK.out (i + 1) W S' (by omega) h)
          obtain ⟨KK, hKK⟩ : ∃ K, K = rkf F (i + 1) := ⟨_, rfl⟩
          rw [← hKK] at RKN KB SN2
          clear hKK SN RK RP
          clear hl
          have HE := Lib.hid ew
          clear ew
          go_wp2_with (first
            | (refine wpList_load_row rfl 77 (.tmp 3) rfl w.heap.size rfl 77 _ (0, 0) _ HM.out.1 Tryz.underlying77 rfl (i47 MB.out.1) ?_))
          refine (CL.out _ _ HM.out MB.out).mono ?_
          rintro e w9 ⟨rfl, hb⟩
          have HN := Lib.hid (HM.out.below hb)
          clear hb HM
          go_wp2_with (first
            | (refine wpList_store_row rfl 77 (.tmp 3) (.tmp 30) rfl w.heap.size _ rfl rfl 77 _ HN.out.1 (i47 XB.out.1) (ns_eq MB.out.1 XB.out.1) (none_ _) ?_))
          have HM := Lib.hid (HN.out.store (mx 2 3 1 1 (mv 1 (sb bxs S))))
          clear HN CL
          have ew := HE.out
          have H1 := Lib.hid (HM.out.drew)
          clear HM
          refine wp_region_any (by kernel_rfl) ?_
          change wpAny _ _ _ _ _ _ _ (World.drew _)
          refine' wpAny_take (i := 1) ?h1x1d ?hsx1d ?hfx1d ?hrx1d ?hQx1d (Or.inl ⟨?hwx1d, ?hyx1d⟩) ?restx1d
          case h1x1d => (simp only [List.getElem?_toArray, List.getElem?_cons_succ, List.getElem?_cons_zero]; rfl)
          case hsx1d | hfx1d | hrx1d => kernel_rfl
          case hQx1d => exact fun _ _ _ h => h
          case hwx1d => rfl
          case hyx1d =>
            intro W
            go_simp
            try with_reducible rfl
          simp only [Act.put, List.setIfInBounds_toArray, List.set_cons_succ, List.set_cons_zero]
          refine' wpAny_take (i := 2) ?h1x2d ?hsx2d ?hfx2d ?hrx2d ?hQx2d (Or.inl ⟨?hwx2d, ?hyx2d⟩) ?restx2d
          case h1x2d => (simp only [List.getElem?_toArray, List.getElem?_cons_succ, List.getElem?_cons_zero]; rfl)
          case hsx2d | hfx2d | hrx2d => kernel_rfl
          case hQx2d => exact fun _ _ _ h => h
          case hwx2d => rfl
          case hyx2d =>
            intro W
            go_simp
            try with_reducible rfl
          simp only [Act.put, List.setIfInBounds_toArray, List.set_cons_succ, List.set_cons_zero]
          refine' wpAny_take (i := 3) ?h1x3d ?hsx3d ?hfx3d ?hrx3d ?hQx3d (Or.inl ⟨?hwx3d, ?hyx3d⟩) ?restx3d
          case h1x3d => (simp only [List.getElem?_toArray, List.getElem?_cons_succ, List.getElem?_cons_zero]; rfl)
          case hsx3d | hfx3d | hrx3d => kernel_rfl
          case hQx3d => exact fun _ _ _ h => h
          case hwx3d => rfl
          case hyx3d =>
            intro W
            go_simp
            try with_reducible rfl
          simp only [Act.put, List.setIfInBounds_toArray, List.set_cons_succ, List.set_cons_zero]
          refine wpAny_ready (rs := [0, 4]) (by kernel_rfl) (by simp) ?_
          refine' AllReady.cons ?hoc0d (fun K hK => ?stc0d) (AllReady.cons ?hoc4d (fun K hK => ?stc4d) AllReady.nil)
          case hoc0d => (simp only [List.getElem?_toArray, List.getElem?_cons_zero]; rfl)
          case hoc4d => (simp only [List.getElem?_toArray, List.getElem?_cons_succ, List.getElem?_cons_zero]; rfl)
          case stc0d =>
            rw [if_pos (by rfl)]
            refine wp_load_row 77 (.tmp 3) rfl w.heap.size rfl 77 _ (0, 0) _ H1.out.1 Tryz.underlying77 rfl (i47 XB.out.1) ?_
            refine hK _ _ ?_
            clear hK K
            try simp only [Act.put, List.setIfInBounds_toArray, List.set_cons_succ, List.set_cons_zero]
            refine wpAny_ready (rs := [4]) (by kernel_rfl) (by simp) ?_
            refine' AllReady.cons ?hoc4da (fun K hK => ?stc4da) AllReady.nil
            case hoc4da => (simp only [List.getElem?_toArray, List.getElem?_cons_succ, List.getElem?_cons_zero]; rfl)
            go_simp
            refine (RKN.out _ _ H1.out).mono ?_
            rintro e w2 ⟨rfl, hb⟩
            have H2 := Lib.hid (H1.out.below hb)
            clear hb
            go_wp2_with fail
            try refine hK _ _ ?_
            try clear hK K
            try simp only [Act.put, List.setIfInBounds_toArray, List.set_cons_succ, List.set_cons_zero]
            refine wpAny_ready (rs := [5]) (by kernel_rfl) (by simp) ?_
            refine' AllReady.cons ?hoc5da (fun K hK => ?stc5da) AllReady.nil
            case hoc5da => (simp only [List.getElem?_toArray, List.getElem?_cons_succ, List.getElem?_cons_zero]; rfl)
            go_simp
            refine (joined _ _ XB.out KB.out _).mono ?_
            rintro e w3 ⟨rfl, hb⟩
            have H3 := Lib.hid (H2.out.below hb)
            clear hb
            go_wp2_with fail
            try refine hK _ _ ?_
            try clear hK K
            try simp only [Act.put, List.setIfInBounds_toArray, List.set_cons_succ, List.set_cons_zero]
            refine wpAny_ready (rs := [6]) (by kernel_rfl) (by simp) ?_
            refine' AllReady.cons ?hoc6da (fun K hK => ?stc6da) AllReady.nil
            case hoc6da => (simp only [List.getElem?_toArray, List.getElem?_cons_succ, List.getElem?_cons_zero]; rfl)
            rw [if_pos (by rfl)]
            refine wp_store_row 77 (.tmp 3) (.tmp 36) rfl w.heap.size (ncells (jn (mx 2 3 1 1 (mv 1 (sb bxs S))) KK)) rfl rfl 77 _ H3.out.1 (i47 (jn_bts XB.out KB.out).1) (ns_eq XB.out.1 (jn_bts XB.out KB.out).1) (none_ _) ?_
            refine hK _ _ ?_
            clear hK K
            have H4 := Lib.hid (H3.out.store (jn (mx 2 3 1 1 (mv 1 (sb bxs S))) KK))
            try simp only [Act.put]
            refine wpAny_done (by kernel_rfl) ?_ _
            go_wp2_with fail
            go_roundw
            case rel =>
              refine ⟨i + 1, by omega, by go_num, ?_⟩
              rw [SN2.out]
              exact H4.out
            case measure => simp [intOf]; omega
          case stc4d =>
            go_simp
            refine (RKN.out _ _ H1.out).mono ?_
            rintro e w2 ⟨rfl, hb⟩
            have H2 := Lib.hid (H1.out.below hb)
            clear hb
            go_wp2_with fail
            try refine hK _ _ ?_
            try clear hK K
            try simp only [Act.put, List.setIfInBounds_toArray, List.set_cons_succ, List.set_cons_zero]
            refine wpAny_ready (rs := [0]) (by kernel_rfl) (by simp) ?_
            refine' AllReady.cons ?hoc0db (fun K hK => ?stc0db) AllReady.nil
            case hoc0db => (simp only [List.getElem?_toArray, List.getElem?_cons_zero]; rfl)
            rw [if_pos (by rfl)]
            refine wp_load_row 77 (.tmp 3) rfl w.heap.size rfl 77 _ (0, 0) _ H2.out.1 Tryz.underlying77 rfl (i47 XB.out.1) ?_
            refine hK _ _ ?_
            clear hK K
            try simp only [Act.put, List.setIfInBounds_toArray, List.set_cons_succ, List.set_cons_zero]
            refine wpAny_ready (rs := [5]) (by kernel_rfl) (by simp) ?_
            refine' AllReady.cons ?hoc5db (fun K hK => ?stc5db) AllReady.nil
            case hoc5db => (simp only [List.getElem?_toArray, List.getElem?_cons_succ, List.getElem?_cons_zero]; rfl)
            go_simp
            refine (joined _ _ XB.out KB.out _).mono ?_
            rintro e w3 ⟨rfl, hb⟩
            have H3 := Lib.hid (H2.out.below hb)
            clear hb
            go_wp2_with fail
            try refine hK _ _ ?_
            try clear hK K
            try simp only [Act.put, List.setIfInBounds_toArray, List.set_cons_succ, List.set_cons_zero]
            refine wpAny_ready (rs := [6]) (by kernel_rfl) (by simp) ?_
            refine' AllReady.cons ?hoc6db (fun K hK => ?stc6db) AllReady.nil
            case hoc6db => (simp only [List.getElem?_toArray, List.getElem?_cons_succ, List.getElem?_cons_zero]; rfl)
            rw [if_pos (by rfl)]
            refine wp_store_row 77 (.tmp 3) (.tmp 36) rfl w.heap.size (ncells (jn (mx 2 3 1 1 (mv 1 (sb bxs S))) KK)) rfl rfl 77 _ H3.out.1 (i47 (jn_bts XB.out KB.out).1) (ns_eq XB.out.1 (jn_bts XB.out KB.out).1) (none_ _) ?_
            refine hK _ _ ?_
            clear hK K
            have H4 := Lib.hid (H3.out.store (jn (mx 2 3 1 1 (mv 1 (sb bxs S))) KK))
            try simp only [Act.put]
            refine wpAny_done (by kernel_rfl) ?_ _
            go_wp2_with fail
            go_roundw
            case rel =>
              refine ⟨i + 1, by omega, by go_num, ?_⟩
              rw [SN2.out]
              exact H4.out
            case measure => simp [intOf]; omega
      · obtain rfl : i = 14 := by omega
        have TT : Hid (trn (rkf F) b 14 = turn (rkf F) b) := rfl
        rw [TT.out] at hts
        have TB : Hid (Bts 16 (turn (rkf F) b)) := turn_bts (rkf_bts HFB.out) HBB.out
        obtain ⟨J, hJ⟩ : ∃ J, J = turn (rkf F) b := ⟨_, rfl⟩
        rw [← hJ] at TT TB hts
        have HJ := Lib.hid hJ
        clear hJ TT
        have HT := Lib.hid hts
        clear hts
        go_wp2_with (first
          | (refine wpList_load_row rfl 77 (.tmp 3) rfl w.heap.size rfl 77 (ncells J) (0, 0) _ HT.out.1 Tryz.underlying77 rfl (i47 TB.out.1) ?_)
          | (refine wpList_store_row rfl 77 (.tmp 4) (.tmp 38) rfl (w.heap.size + 1) (ncells J) rfl rfl 77 Z HT.out.2.1 (i47 TB.out.1) (ZL.out _ TB.out.1) (none_ _) ?_))
        refine bodyPost_ret (v := .agg (ncells J)) (results_cell_row Tryz.results59 _ _ (w.heap.size + 1) 77 _ (0, 0) _ rfl (setRow_heap _ _ _ _ _ _ HT.out.2.1) Tryz.underlying77 rfl (i47 TB.out.1)) rfl ⟨by rw [HJ.out], ?_⟩
        exact HT.out.2.2.2.2.trans (below_row _ _ (by omega))
end Go.Proofs.YtpkeofioobmmoaaGreatDoor.ae
