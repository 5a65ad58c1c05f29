/-
  Contracts of the functions that the statements of package aes go through: a block turned back, by any table. Condition: the numbers are bytes.
-/
import Derived.Test.YtpkeofioobmmoaaGreatDoorAeAesT
namespace Go.Proofs.YtpkeofioobmmoaaGreatDoor.ae
open Go.RowKit
set_option maxRecDepth 100000 in
set_option maxHeartbeats 8000000 in
theorem backC (F T b : List Nat) (hF : Bts 240 F) (hT : Bts 256 T) (hb : Bts 16 b) (gc : Nat) (w : World) (hw : ∀ j, j < 240 → w.cell? ⟨gc, j, none⟩ = some (.int .u8 (at_ F j : Nat))) (hx : ∀ j, j < 256 → w.cell? ⟨gc, 496 + j, none⟩ = some (.int .u8 (at_ T j : Nat))) :
    Calls Tryz.prog 44 #[.pointer (some ⟨gc, 0, none⟩), .agg (ncells b)] w fun e w' => e = .returned (.agg (ncells (backT T (rkf F) b))) ∧ Below w.heap.size w w' := by
  have zz := zero47
  obtain ⟨Z, hZ⟩ : ∃ Z, Z = ncells (zeros 16) := ⟨_, rfl⟩
  rw [← hZ] at zz
  have ZL : Hid (∀ l : List Nat, l.length = 16 → Z.size = (ncells l).size) := fun l hl => by rw [hZ]; exact z47 hl
  have LG : Hid (gc < w.heap.size) := World.block_lt_of_cell? w _ (hw 0 (by omega))
  have HFB := Lib.hid hF
  have HBB := Lib.hid hb
  have HTB := Lib.hid hT
  have RK : Hid (∀ (n : Nat) (W : World) (S : List Nat), n ≤ 14 → TS w Z [14, 11, 13, 9] W S → Calls Tryz.prog 64 #[.pointer (some ⟨gc, 0, none⟩), .int .i64 n] W fun e w' => e = .returned (.agg (ncells (rkf F n))) ∧ Below W.heap.size W w') :=
    fun n W S hn h => roundKey F gc n hn W (fun j hj => (h.2.2.2.2.cell (p := ⟨gc, j, none⟩) LG.out).trans (hw j hj))
  have RK0 : Hid (∀ (W : World) (S : List Nat), TS w Z [14, 11, 13, 9] W S → Calls Tryz.prog 64 #[.pointer (some ⟨gc, 0, none⟩), .int .i64 0] W fun e w' => e = .returned (.agg (ncells (rkf F 0))) ∧ Below W.heap.size W w') :=
    fun W S h => RK.out 0 W S (by omega) h
  have RP : Hid (∀ (W : World) (S S' : List Nat), TS w Z [14, 11, 13, 9] W S → Bts 16 S' → Calls Tryz.prog 65 #[.agg (ncells S'), .pointer (some ⟨gc, 496, none⟩)] W fun e w' => e = .returned (.agg (ncells (sb T S'))) ∧ Below W.heap.size W w') :=
    fun W S S' h hS => replaced S' T hS hT gc 496 W (fun j hj => (h.2.2.2.2.cell (p := ⟨gc, 496 + j, none⟩) LG.out).trans (hx j hj))
  have CL : Hid (∀ (W : World) (S : List Nat), TS w Z [14, 11, 13, 9] W S → Bts 16 S → Calls Tryz.prog 84 #[.agg (ncells S), .pointer (some ⟨w.heap.size + 1 + 1 + 1, 0, none⟩)] W fun e w' => e = .returned (.agg (ncells (mx 14 11 13 9 S))) ∧ Below W.heap.size W w') :=
    fun W S h hS => cols 14 11 13 9 (by omega) (by omega) (by omega) (by omega) S hS _ _ 4 W h.cap (h.fac rfl)
  obtain ⟨W1, hW1⟩ : ∃ W1, W1 = (((w.alloc (.cells (ncells b) 77)).alloc (.cells Z 77)).alloc (.cells #[.int .u8 14, .int .u8 11, .int .u8 13, .int .u8 9] 5)).alloc (.cells #[.slice (some ⟨w.heap.size + 1 + 1, 0, none⟩) 4 4] 31) := ⟨_, rfl⟩
  have H0 : Hid (TS w Z [14, 11, 13, 9] W1 b) := by
    rw [hW1]
    refine ⟨?_, ?_, ?_, ?_, ((((Below.refl _ _).alloc (Nat.le_refl _) _).alloc (by simp) _).alloc (by simp; omega) _).alloc (by simp; omega) _⟩
    · rw [Below.heap_alloc _ _ _ (by simp; omega), Below.heap_alloc _ _ _ (by simp; omega), Below.heap_alloc _ _ _ (by simp)]; exact heap_alloc_new w _
    · rw [Below.heap_alloc _ _ _ (by simp <;> omega), Below.heap_alloc _ _ _ (by simp)]; exact heap_alloc2_new w _ _
    · rw [show ncells [14, 11, 13, 9] = #[.int .u8 14, .int .u8 11, .int .u8 13, .int .u8 9] from rfl, Below.heap_alloc _ _ _ (by simp)]
      have := heap_alloc_new ((w.alloc (.cells (ncells b) 77)).alloc (.cells Z 77)) (.cells #[.int .u8 14, .int .u8 11, .int .u8 13, .int .u8 9] 5)
      simpa using this
    · have := heap_alloc_new (((w.alloc (.cells (ncells b) 77)).alloc (.cells Z 77)).alloc (.cells #[.int .u8 14, .int .u8 11, .int .u8 13, .int .u8 9] 5)) (.cells #[.slice (some ⟨w.heap.size + 1 + 1, 0, none⟩) 4 4] 31)
      simpa using this
  have HW1 := Lib.hid hW1
  clear hZ hF hb hw hx hW1 hT
  go_enter Tryz.func44, Tryz.ntmps44
  go_wp2_with (refine (columns _ _ _ _).mono ?_; rintro e w1 ⟨rfl, rfl⟩)
  rw [← HW1.out]
  clear HW1
  go_loopw [6, 12] (fun _ vi wr => ∃ i : Nat, i ≤ 14 ∧ vi = .int .i64 i ∧ TS w Z [14, 11, 13, 9] wr (bkT T (rkf F) b i)) (fun _ vi _ => 14 - (intOf vi).toNat)
  case atStart => exact ⟨0, by omega, rfl, H0.out⟩
  case round =>
    clear H0
    clear W1
    obtain ⟨i, hi, rfl, hts⟩ := hrel
    by_cases hlt : i < 14
    · have hi14 : (i : Int) < 14 := by omega
      have SB : Hid (Bts 16 (bkT T (rkf F) b i)) := bkT_bts HTB.out (rkf F) HBB.out i
      have SN : Hid (bkT T (rkf F) b (i + 1) = sb T (mv 3 (cond (decide (i = 0)) (jn (bkT T (rkf F) b i) (rkf F (14 - i))) (mx 14 11 13 9 (jn (bkT T (rkf F) b i) (rkf F (14 - i))))))) := rfl
      generalize bkT T (rkf F) b i = S at *
      have KB : Hid (Bts 16 (rkf F (14 - i))) := rkf_bts HFB.out _
      have RKN := Lib.hid (fun (W : World) (S' : List Nat) (h : TS w Z [14, 11, 13, 9] W S') => RK.out (14 - i) W S' (by omega) h)
      obtain ⟨KK, hKK⟩ : ∃ K, K = rkf F (14 - i) := ⟨_, rfl⟩
      rw [← hKK] at RKN KB SN
      clear hKK
      have JB : Hid (Bts 16 (jn S KK)) := jn_bts SB.out KB.out
      have XB : Hid (Bts 16 (mx 14 11 13 9 (jn S KK))) := mx_bts _ _ _ _ JB.out
      have H1 := Lib.hid hts.drew
      clear hts
      obtain ⟨n, hn⟩ : ∃ n, n = 14 - i := ⟨_, rfl⟩
      rw [← hn] at RKN
      have ew : IntKind.i64.wrap (14 - (i : Int)) = (n : Int) := by rw [IntWalk.i64_in _ (by omega)]; omega
      have HN := Lib.hid hn
      clear hn
      go_wp2_with fail
      refine wp_region_any (by kernel_rfl) ?_
      change wpAny _ _ _ _ _ _ _ (World.drew _)
      refine' wpAny_take (i := 1) ?h1x1q ?hsx1q ?hfx1q ?hrx1q ?hQx1q (Or.inl ⟨?hwx1q, ?hyx1q⟩) ?restx1q
      case h1x1q => (simp only [List.getElem?_toArray, List.getElem?_cons_succ, List.getElem?_cons_zero]; rfl)
      case hsx1q | hfx1q | hrx1q => kernel_rfl
      case hQx1q => exact fun _ _ _ h => h
      case hwx1q => rfl
      case hyx1q =>
        intro W
        go_simp
        try with_reducible rfl
      simp only [Act.put, List.setIfInBounds_toArray, List.set_cons_succ, List.set_cons_zero]
      refine' wpAny_take (i := 2) ?h1x2q ?hsx2q ?hfx2q ?hrx2q ?hQx2q (Or.inl ⟨?hwx2q, ?hyx2q⟩) ?restx2q
      case h1x2q => (simp only [List.getElem?_toArray, List.getElem?_cons_succ, List.getElem?_cons_zero]; rfl)
      case hsx2q | hfx2q | hrx2q => kernel_rfl
      case hQx2q => exact fun _ _ _ h => h
      case hwx2q => rfl
      case hyx2q =>
        intro W
        go_simp
        try with_reducible rfl
      simp only [Act.put, List.setIfInBounds_toArray, List.set_cons_succ, List.set_cons_zero]
      refine' wpAny_take (i := 3) ?h1x3q ?hsx3q ?hfx3q ?hrx3q ?hQx3q (Or.inl ⟨?hwx3q, ?hyx3q⟩) ?restx3q
      case h1x3q => (simp only [List.getElem?_toArray, List.getElem?_cons_succ, List.getElem?_cons_zero]; rfl)
      case hsx3q | hfx3q | hrx3q => kernel_rfl
      case hQx3q => exact fun _ _ _ h => h
      case hwx3q => rfl
      case hyx3q =>
        intro W
        go_simp
        try with_reducible rfl
      simp only [Act.put, List.setIfInBounds_toArray, List.set_cons_succ, List.set_cons_zero]
      refine wpAny_ready (rs := [0, 4]) (by kernel_rfl) (by simp) ?_
      refine' AllReady.cons ?hoc0q (fun K hK => ?stc0q) (AllReady.cons ?hoc4q (fun K hK => ?stc4q) AllReady.nil)
      case hoc0q => (simp only [List.getElem?_toArray, List.getElem?_cons_zero]; rfl)
      case hoc4q => (simp only [List.getElem?_toArray, List.getElem?_cons_succ, List.getElem?_cons_zero]; rfl)
      case stc0q =>
        rw [if_pos (by rfl)]
        refine wp_load_row 77 (.tmp 3) rfl w.heap.size rfl 77 _ (0, 0) _ H1.out.1 Tryz.underlying77 rfl (i47 SB.out.1) ?_
        refine hK _ _ ?_
        clear hK K
        try simp only [Act.put, List.setIfInBounds_toArray, List.set_cons_succ, List.set_cons_zero]
        refine wpAny_ready (rs := [4]) (by kernel_rfl) (by simp) ?_
        refine' AllReady.cons ?hoc4qa (fun K hK => ?stc4qa) AllReady.nil
        case hoc4qa => (simp only [List.getElem?_toArray, List.getElem?_cons_succ, List.getElem?_cons_zero]; rfl)
        go_simp
        refine (RKN.out _ _ H1.out).mono ?_
        rintro e w2 ⟨rfl, hb⟩
        have H2 := Lib.hid (H1.out.below hb)
        clear hb
        go_wp2_with fail
        try refine hK _ _ ?_
        try clear hK K
        try simp only [Act.put, List.setIfInBounds_toArray, List.set_cons_succ, List.set_cons_zero]
        refine wpAny_ready (rs := [5]) (by kernel_rfl) (by simp) ?_
        refine' AllReady.cons ?hoc5qa (fun K hK => ?stc5qa) AllReady.nil
        case hoc5qa => (simp only [List.getElem?_toArray, List.getElem?_cons_succ, List.getElem?_cons_zero]; rfl)
        go_simp
        refine (joined _ _ SB.out KB.out _).mono ?_
        rintro e w3 ⟨rfl, hb⟩
        have H3 := Lib.hid (H2.out.below hb)
        clear hb
        go_wp2_with fail
        try refine hK _ _ ?_
        try clear hK K
        try simp only [Act.put, List.setIfInBounds_toArray, List.set_cons_succ, List.set_cons_zero]
        refine wpAny_ready (rs := [6]) (by kernel_rfl) (by simp) ?_
        refine' AllReady.cons ?hoc6qa (fun K hK => ?stc6qa) AllReady.nil
        case hoc6qa => (simp only [List.getElem?_toArray, List.getElem?_cons_succ, List.getElem?_cons_zero]; rfl)
        rw [if_pos (by rfl)]
        refine wp_store_row 77 (.tmp 3) (.tmp 20) rfl w.heap.size (ncells (jn S KK)) rfl rfl 77 _ H3.out.1 (i47 JB.out.1) (ns_eq SB.out.1 JB.out.1) (none_ _) ?_
        refine hK _ _ ?_
        clear hK K
        have H4 := Lib.hid (H3.out.store (jn S KK))
        try simp only [Act.put]
        refine wpAny_done (by kernel_rfl) ?_ _
        have HM := Lib.hid H4.out
        clear H1 H2 H3 H4
        clear ew RKN RK
        by_cases hl : i = 0
        · have SN2 : Hid (bkT T (rkf F) b (i + 1) = sb T (mv 3 (jn S KK))) := by show _ = _; rw [SN.out, hl]; rfl
          have hq : ¬ (0 : Int) < (i : Int) := by omega
          clear hl
          go_wp2_with fail
          have H1 := Lib.hid (HM.out.drew)
          clear HM
          refine wp_region_any (by kernel_rfl) ?_
          change wpAny _ _ _ _ _ _ _ (World.drew _)
          refine' wpAny_take (i := 2) ?h1x2ca ?hsx2ca ?hfx2ca ?hrx2ca ?hQx2ca (Or.inl ⟨?hwx2ca, ?hyx2ca⟩) ?restx2ca
          case h1x2ca => (simp only [List.getElem?_toArray, List.getElem?_cons_succ, List.getElem?_cons_zero]; rfl)
          case hsx2ca | hfx2ca | hrx2ca => kernel_rfl
          case hQx2ca => exact fun _ _ _ h => h
          case hwx2ca => rfl
          case hyx2ca =>
            intro W
            go_simp
            try with_reducible rfl
          simp only [Act.put, List.setIfInBounds_toArray, List.set_cons_succ, List.set_cons_zero]
          refine' wpAny_take (i := 3) ?h1x3ca ?hsx3ca ?hfx3ca ?hrx3ca ?hQx3ca (Or.inl ⟨?hwx3ca, ?hyx3ca⟩) ?restx3ca
          case h1x3ca => (simp only [List.getElem?_toArray, List.getElem?_cons_succ, List.getElem?_cons_zero]; rfl)
          case hsx3ca | hfx3ca | hrx3ca => kernel_rfl
          case hQx3ca => exact fun _ _ _ h => h
          case hwx3ca => rfl
          case hyx3ca =>
            intro W
            go_simp
            try with_reducible rfl
          simp only [Act.put, List.setIfInBounds_toArray, List.set_cons_succ, List.set_cons_zero]
          refine' wpAny_take (i := 4) ?h1x4ca ?hsx4ca ?hfx4ca ?hrx4ca ?hQx4ca (Or.inl ⟨?hwx4ca, ?hyx4ca⟩) ?restx4ca
          case h1x4ca => (simp only [List.getElem?_toArray, List.getElem?_cons_succ, List.getElem?_cons_zero]; rfl)
          case hsx4ca | hfx4ca | hrx4ca => kernel_rfl
          case hQx4ca => exact fun _ _ _ h => h
          case hwx4ca => rfl
          case hyx4ca =>
            intro W
            go_simp
            try with_reducible rfl
          simp only [Act.put, List.setIfInBounds_toArray, List.set_cons_succ, List.set_cons_zero]
          refine wpAny_ready (rs := [0]) (by kernel_rfl) (by simp) ?_
          refine' AllReady.cons ?hoc0ca (fun K hK => ?stc0ca) AllReady.nil
          case hoc0ca => (simp only [List.getElem?_toArray, List.getElem?_cons_zero]; rfl)
          rw [if_pos (by rfl)]
          refine wp_load_row 77 (.tmp 3) rfl w.heap.size rfl 77 _ (0, 0) _ H1.out.1 Tryz.underlying77 rfl (i47 JB.out.1) ?_
          refine hK _ _ ?_
          clear hK K
          try simp only [Act.put, List.setIfInBounds_toArray, List.set_cons_succ, List.set_cons_zero]
          refine wpAny_ready (rs := [1]) (by kernel_rfl) (by simp) ?_
          refine' AllReady.cons ?hoc1ca (fun K hK => ?stc1ca) AllReady.nil
          case hoc1ca => (simp only [List.getElem?_toArray, List.getElem?_cons_succ, List.getElem?_cons_zero]; rfl)
          go_simp
          refine (moved3 _ JB.out _).mono ?_
          rintro e w2 ⟨rfl, hb⟩
          have H2 := Lib.hid (H1.out.below hb)
          clear hb
          go_wp2_with fail
          try refine hK _ _ ?_
          try clear hK K
          try simp only [Act.put, List.setIfInBounds_toArray, List.set_cons_succ, List.set_cons_zero]
          refine wpAny_ready (rs := [5]) (by kernel_rfl) (by simp) ?_
          refine' AllReady.cons ?hoc5ca (fun K hK => ?stc5ca) AllReady.nil
          case hoc5ca => (simp only [List.getElem?_toArray, List.getElem?_cons_succ, List.getElem?_cons_zero]; rfl)
          go_simp
          refine (RP.out _ _ _ H2.out (mv_bts 3 JB.out)).mono ?_
          rintro e w3 ⟨rfl, hb⟩
          have H3 := Lib.hid (H2.out.below hb)
          clear hb
          go_wp2_with fail
          try refine hK _ _ ?_
          try clear hK K
          try simp only [Act.put, List.setIfInBounds_toArray, List.set_cons_succ, List.set_cons_zero]
          refine wpAny_ready (rs := [6]) (by kernel_rfl) (by simp) ?_
          refine' AllReady.cons ?hoc6ca (fun K hK => ?stc6ca) AllReady.nil
          case hoc6ca => (simp only [List.getElem?_toArray, List.getElem?_cons_succ, List.getElem?_cons_zero]; rfl)
          rw [if_pos (by rfl)]
          refine wp_store_row 77 (.tmp 3) (.tmp 31) rfl w.heap.size (ncells (sb T (mv 3 (jn S KK)))) rfl rfl 77 _ H3.out.1 (i47 (sb_bts HTB.out).1) (ns_eq JB.out.1 (sb_bts HTB.out).1) (none_ _) ?_
          refine hK _ _ ?_
          clear hK K
          have H4 := Lib.hid (H3.out.store (sb T (mv 3 (jn S KK))))
          try simp only [Act.put]
          refine wpAny_done (by kernel_rfl) ?_ _
          go_wp2_with fail
          go_roundw
          case rel =>
            refine ⟨i + 1, by omega, by go_num, ?_⟩
            rw [SN2.out]
            exact H4.out
          case measure => simp [intOf]; omega
        · have SN2 : Hid (bkT T (rkf F) b (i + 1) = sb T (mv 3 (mx 14 11 13 9 (jn S KK)))) := by
            show _ = _
            rw [SN.out, show decide (i = 0) = false by simpa using hl]; rfl
          have hq : (0 : Int) < (i : Int) := by omega
          clear hl
          go_wp2_with (first
            | (refine wpList_load_row rfl 77 (.tmp 3) rfl w.heap.size rfl 77 _ (0, 0) _ HM.out.1 Tryz.underlying77 rfl (i47 JB.out.1) ?_))
          refine (CL.out _ _ HM.out JB.out).mono ?_
          rintro e w9 ⟨rfl, hb⟩
          have HN2 := Lib.hid (HM.out.below hb)
          clear hb HM
          go_wp2_with (first
            | (refine wpList_store_row rfl 77 (.tmp 3) (.tmp 25) rfl w.heap.size _ rfl rfl 77 _ HN2.out.1 (i47 XB.out.1) (ns_eq JB.out.1 XB.out.1) (none_ _) ?_))
          have HM := Lib.hid (HN2.out.store (mx 14 11 13 9 (jn S KK)))
          clear HN2 CL
          have H1 := Lib.hid (HM.out.drew)
          clear HM
          refine wp_region_any (by kernel_rfl) ?_
          change wpAny _ _ _ _ _ _ _ (World.drew _)
          refine' wpAny_take (i := 2) ?h1x2da ?hsx2da ?hfx2da ?hrx2da ?hQx2da (Or.inl ⟨?hwx2da, ?hyx2da⟩) ?restx2da
          case h1x2da => (simp only [List.getElem?_toArray, List.getElem?_cons_succ, List.getElem?_cons_zero]; rfl)
          case hsx2da | hfx2da | hrx2da => kernel_rfl
          case hQx2da => exact fun _ _ _ h => h
          case hwx2da => rfl
          case hyx2da =>
            intro W
            go_simp
            try with_reducible rfl
          simp only [Act.put, List.setIfInBounds_toArray, List.set_cons_succ, List.set_cons_zero]
          refine' wpAny_take (i := 3) ?h1x3da ?hsx3da ?hfx3da ?hrx3da ?hQx3da (Or.inl ⟨?hwx3da, ?hyx3da⟩) ?restx3da
          case h1x3da => (simp only [List.getElem?_toArray, List.getElem?_cons_succ, List.getElem?_cons_zero]; rfl)
          case hsx3da | hfx3da | hrx3da => kernel_rfl
          case hQx3da => exact fun _ _ _ h => h
          case hwx3da => rfl
          case hyx3da =>
            intro W
            go_simp
            try with_reducible rfl
          simp only [Act.put, List.setIfInBounds_toArray, List.set_cons_succ, List.set_cons_zero]
          refine' wpAny_take (i := 4) ?h1x4da ?hsx4da ?hfx4da ?hrx4da ?hQx4da (Or.inl ⟨?hwx4da, ?hyx4da⟩) ?restx4da
          case h1x4da => (simp only [List.getElem?_toArray, List.getElem?_cons_succ, List.getElem?_cons_zero]; rfl)
          case hsx4da | hfx4da | hrx4da => kernel_rfl
          case hQx4da => exact fun _ _ _ h => h
          case hwx4da => rfl
          case hyx4da =>
            intro W
            go_simp
            try with_reducible rfl
          simp only [Act.put, List.setIfInBounds_toArray, List.set_cons_succ, List.set_cons_zero]
          refine wpAny_ready (rs := [0]) (by kernel_rfl) (by simp) ?_
          refine' AllReady.cons ?hoc0da (fun K hK => ?stc0da) AllReady.nil
          case hoc0da => (simp only [List.getElem?_toArray, List.getElem?_cons_zero]; rfl)
          rw [if_pos (by rfl)]
          refine wp_load_row 77 (.tmp 3) rfl w.heap.size rfl 77 _ (0, 0) _ H1.out.1 Tryz.underlying77 rfl (i47 XB.out.1) ?_
          refine hK _ _ ?_
          clear hK K
          try simp only [Act.put, List.setIfInBounds_toArray, List.set_cons_succ, List.set_cons_zero]
          refine wpAny_ready (rs := [1]) (by kernel_rfl) (by simp) ?_
          refine' AllReady.cons ?hoc1da (fun K hK => ?stc1da) AllReady.nil
          case hoc1da => (simp only [List.getElem?_toArray, List.getElem?_cons_succ, List.getElem?_cons_zero]; rfl)
          go_simp
          refine (moved3 _ XB.out _).mono ?_
          rintro e w2 ⟨rfl, hb⟩
          have H2 := Lib.hid (H1.out.below hb)
          clear hb
          go_wp2_with fail
          try refine hK _ _ ?_
          try clear hK K
          try simp only [Act.put, List.setIfInBounds_toArray, List.set_cons_succ, List.set_cons_zero]
          refine wpAny_ready (rs := [5]) (by kernel_rfl) (by simp) ?_
          refine' AllReady.cons ?hoc5da (fun K hK => ?stc5da) AllReady.nil
          case hoc5da => (simp only [List.getElem?_toArray, List.getElem?_cons_succ, List.getElem?_cons_zero]; rfl)
          go_simp
          refine (RP.out _ _ _ H2.out (mv_bts 3 XB.out)).mono ?_
          rintro e w3 ⟨rfl, hb⟩
          have H3 := Lib.hid (H2.out.below hb)
          clear hb
          go_wp2_with fail
          try refine hK _ _ ?_
          try clear hK K
          try simp only [Act.put, List.setIfInBounds_toArray, List.set_cons_succ, List.set_cons_zero]
          refine wpAny_ready (rs := [6]) (by kernel_rfl) (by simp) ?_
          refine' AllReady.cons ?hoc6da (fun K hK => ?stc6da) AllReady.nil
          case hoc6da => (simp only [List.getElem?_toArray, List.getElem?_cons_succ, List.getElem?_cons_zero]; rfl)
          rw [if_pos (by rfl)]
          refine wp_store_row 77 (.tmp 3) (.tmp 31) rfl w.heap.size (ncells (sb T (mv 3 (mx 14 11 13 9 (jn S KK))))) rfl rfl 77 _ H3.out.1 (i47 (sb_bts HTB.out).1) (ns_eq XB.out.1 (sb_bts HTB.out).1) (none_ _) ?_
          refine hK _ _ ?_
          clear hK K
          have H4 := Lib.hid (H3.out.store (sb T (mv 3 (mx 14 11 13 9 (jn S KK)))))
          try simp only [Act.put]
          refine wpAny_done (by kernel_rfl) ?_ _
          go_wp2_with fail
          go_roundw
          case rel =>
            refine ⟨i + 1, by omega, by go_num, ?_⟩
            rw [SN2.out]
            exact H4.out
          case measure => simp [intOf]; omega
      case stc4q =>
        go_simp
        refine (RKN.out _ _ H1.out).mono ?_
        rintro e w2 ⟨rfl, hb⟩
        have H2 := Lib.hid (H1.out.below hb)
        clear hb
        go_wp2_with fail
        try refine hK _ _ ?_
        try clear hK K
        try simp only [Act.put, List.setIfInBounds_toArray, List.set_cons_succ, List.set_cons_zero]
        refine wpAny_ready (rs := [0]) (by kernel_rfl) (by simp) ?_
        refine' AllReady.cons ?hoc0qb (fun K hK => ?stc0qb) AllReady.nil
        case hoc0qb => (simp only [List.getElem?_toArray, List.getElem?_cons_zero]; rfl)
        rw [if_pos (by rfl)]
        refine wp_load_row 77 (.tmp 3) rfl w.heap.size rfl 77 _ (0, 0) _ H2.out.1 Tryz.underlying77 rfl (i47 SB.out.1) ?_
        refine hK _ _ ?_
        clear hK K
        try simp only [Act.put, List.setIfInBounds_toArray, List.set_cons_succ, List.set_cons_zero]
        refine wpAny_ready (rs := [5]) (by kernel_rfl) (by simp) ?_
        refine' AllReady.cons ?hoc5qb (fun K hK => ?stc5qb) AllReady.nil
        case hoc5qb => (simp only [List.getElem?_toArray, List.getElem?_cons_succ, List.getElem?_cons_zero]; rfl)
        go_simp
        refine (joined _ _ SB.out KB.out _).mono ?_
        rintro e w3 ⟨rfl, hb⟩
        have H3 := Lib.hid (H2.out.below hb)
        clear hb
        go_wp2_with fail
        try refine hK _ _ ?_
        try clear hK K
        try simp only [Act.put, List.setIfInBounds_toArray, List.set_cons_succ, List.set_cons_zero]
        refine wpAny_ready (rs := [6]) (by kernel_rfl) (by simp) ?_
        refine' AllReady.cons ?hoc6qb (fun K hK => ?stc6qb) AllReady.nil
        case hoc6qb => (simp only [List.getElem?_toArray, List.getElem?_cons_succ, List.getElem?_cons_zero]; rfl)
        rw [if_pos (by rfl)]
        refine wp_store_row 77 (.tmp 3) (.tmp 20) rfl w.heap.size (ncells (jn S KK)) rfl rfl 77 _ H3.out.1 (i47 JB.out.1) (ns_eq SB.out.1 JB.out.1) (none_ _) ?_
        refine hK _ _ ?_
        clear hK K
        have H4 := Lib.hid (H3.out.store (jn S KK))
        try simp only [Act.put]
        refine wpAny_done (by kernel_rfl) ?_ _
        have HM := Lib.hid H4.out
        clear H1 H2 H3 H4
        clear ew RKN RK
        by_cases hl : i = 0
        · have SN2 : Hid (bkT T (rkf F) b (i + 1) = sb T (mv 3 (jn S KK))) := by show _ = _; rw [SN.out, hl]; rfl
          have hq : ¬ (0 : Int) < (i : Int) := by omega
          clear hl
          go_wp2_with fail
          have H1 := Lib.hid (HM.out.drew)
          clear HM
          refine wp_region_any (by kernel_rfl) ?_
          change wpAny _ _ _ _ _ _ _ (World.drew _)
          refine' wpAny_take (i := 2) ?h1x2cb ?hsx2cb ?hfx2cb ?hrx2cb ?hQx2cb (Or.inl ⟨?hwx2cb, ?hyx2cb⟩) ?restx2cb
          case h1x2cb => (simp only [List.getElem?_toArray, List.getElem?_cons_succ, List.getElem?_cons_zero]; rfl)
          case hsx2cb | hfx2cb | hrx2cb => kernel_rfl
          case hQx2cb => exact fun _ _ _ h => h
          case hwx2cb => rfl
          case hyx2cb =>
            intro W
            go_simp
            try with_reducible rfl
          simp only [Act.put, List.setIfInBounds_toArray, List.set_cons_succ, List.set_cons_zero]
          refine' wpAny_take (i := 3) ?h1x3cb ?hsx3cb ?hfx3cb ?hrx3cb ?hQx3cb (Or.inl ⟨?hwx3cb, ?hyx3cb⟩) ?restx3cb
          case h1x3cb => (simp only [List.getElem?_toArray, List.getElem?_cons_succ, List.getElem?_cons_zero]; rfl)
          case hsx3cb | hfx3cb | hrx3cb => kernel_rfl
          case hQx3cb => exact fun _ _ _ h => h
          case hwx3cb => rfl
          case hyx3cb =>
            intro W
            go_simp
            try with_reducible rfl
          simp only [Act.put, List.setIfInBounds_toArray, List.set_cons_succ, List.set_cons_zero]
          refine' wpAny_take (i := 4) ?h1x4cb ?hsx4cb ?hfx4cb ?hrx4cb ?hQx4cb (Or.inl ⟨?hwx4cb, ?hyx4cb⟩) ?restx4cb
          case h1x4cb => (simp only [List.getElem?_toArray, List.getElem?_cons_succ, List.getElem?_cons_zero]; rfl)
          case hsx4cb | hfx4cb | hrx4cb => kernel_rfl
          case hQx4cb => exact fun _ _ _ h => h
          case hwx4cb => rfl
          case hyx4cb =>
            intro W
            go_simp
            try with_reducible rfl
          simp only [Act.put, List.setIfInBounds_toArray, List.set_cons_succ, List.set_cons_zero]
          refine wpAny_ready (rs := [0]) (by kernel_rfl) (by simp) ?_
          refine' AllReady.cons ?hoc0cb (fun K hK => ?stc0cb) AllReady.nil
          case hoc0cb => (simp only [List.getElem?_toArray, List.getElem?_cons_zero]; rfl)
          rw [if_pos (by rfl)]
          refine wp_load_row 77 (.tmp 3) rfl w.heap.size rfl 77 _ (0, 0) _ H1.out.1 Tryz.underlying77 rfl (i47 JB.out.1) ?_
          refine hK _ _ ?_
          clear hK K
          try simp only [Act.put, List.setIfInBounds_toArray, List.set_cons_succ, List.set_cons_zero]
          refine wpAny_ready (rs := [1]) (by kernel_rfl) (by simp) ?_
          refine' AllReady.cons ?hoc1cb (fun K hK => ?stc1cb) AllReady.nil
          case hoc1cb => (simp only [List.getElem?_toArray, List.getElem?_cons_succ, List.getElem?_cons_zero]; rfl)
          go_simp
          refine (moved3 _ JB.out _).mono ?_
          rintro e w2 ⟨rfl, hb⟩
          have H2 := Lib.hid (H1.out.below hb)
          clear hb
          go_wp2_with fail
          try refine hK _ _ ?_
          try clear hK K
          try simp only [Act.put, List.setIfInBounds_toArray, List.set_cons_succ, List.set_cons_zero]
          refine wpAny_ready (rs := [5]) (by kernel_rfl) (by simp) ?_
          refine' AllReady.cons ?hoc5cb (fun K hK => ?stc5cb) AllReady.nil
          case hoc5cb => (simp only [List.getElem?_toArray, List.getElem?_cons_succ, List.getElem?_cons_zero]; rfl)
          go_simp
          refine (RP.out _ _ _ H2.out (mv_bts 3 JB.out)).mono ?_
          rintro e w3 ⟨rfl, hb⟩
          have H3 := Lib.hid (H2.out.below hb)
          clear hb
          go_wp2_with fail
          try refine hK _ _ ?_
          try clear hK K
          try simp only [Act.put, List.setIfInBounds_toArray, List.set_cons_succ, List.set_cons_zero]
          refine wpAny_ready (rs := [6]) (by kernel_rfl) (by simp) ?_
          refine' AllReady.cons ?hoc6cb (fun K hK => ?stc6cb) AllReady.nil
          case hoc6cb => (simp only [List.getElem?_toArray, List.getElem?_cons_succ, List.getElem?_cons_zero]; rfl)
          rw [if_pos (by rfl)]
          refine wp_store_row 77 (.tmp 3) (.tmp 31) rfl w.heap.size (ncells (sb T (mv 3 (jn S KK)))) rfl rfl 77 _ H3.out.1 (i47 (sb_bts HTB.out).1) (ns_eq JB.out.1 (sb_bts HTB.out).1) (none_ _) ?_
          refine hK _ _ ?_
          clear hK K
          have H4 := Lib.hid (H3.out.store (sb T (mv 3 (jn S KK))))
          try simp only [Act.put]
          refine wpAny_done (by kernel_rfl) ?_ _
          go_wp2_with fail
          go_roundw
          case rel =>
            refine ⟨i + 1, by omega, by go_num, ?_⟩
            rw [SN2.out]
            exact H4.out
          case measure => simp [intOf]; omega
        · have SN2 : Hid (bkT T (rkf F) b (i + 1) = sb T (mv 3 (mx 14 11 13 9 (jn S KK)))) := by
            show _ = _
            rw [SN.out, show decide (i = 0) = false by simpa using hl]; rfl
          have hq : (0 : Int) < (i : Int) := by omega
          clear hl
          go_wp2_with (first
            | (refine wpList_load_row rfl 77 (.tmp 3) rfl w.heap.size rfl 77 _ (0, 0) _ HM.out.1 Tryz.underlying77 rfl (i47 JB.out.1) ?_))
          refine (CL.out _ _ HM.out JB.out).mono ?_
          rintro e w9 ⟨rfl, hb⟩
          have HN2 := Lib.hid (HM.out.below hb)
          clear hb HM
          go_wp2_with (first
            | (refine wpList_store_row rfl 77 (.tmp 3) (.tmp 25) rfl w.heap.size _ rfl rfl 77 _ HN2.out.1 (i47 XB.out.1) (ns_eq JB.out.1 XB.out.1) (none_ _) ?_))
          have HM := Lib.hid (HN2.out.store (mx 14 11 13 9 (jn S KK)))
          clear HN2 CL
          have H1 := Lib.hid (HM.out.drew)
          clear HM
          refine wp_region_any (by kernel_rfl) ?_
          change wpAny _ _ _ _ _ _ _ (World.drew _)
          refine' wpAny_take (i := 2) ?h1x2db ?hsx2db ?hfx2db ?hrx2db ?hQx2db (Or.inl ⟨?hwx2db, ?hyx2db⟩) ?restx2db
          case h1x2db => (simp only [List.getElem?_toArray, List.getElem?_cons_succ, List.getElem?_cons_zero]; rfl)
          case hsx2db | hfx2db | hrx2db => kernel_rfl
          case hQx2db => exact fun _ _ _ h => h
          case hwx2db => rfl
          case hyx2db =>
            intro W
            go_simp
            try with_reducible rfl
          simp only [Act.put, List.setIfInBounds_toArray, List.set_cons_succ, List.set_cons_zero]
          refine' wpAny_take (i := 3) ?h1x3db ?hsx3db ?hfx3db ?hrx3db ?hQx3db (Or.inl ⟨?hwx3db, ?hyx3db⟩) ?restx3db
          case h1x3db => (simp only [List.getElem?_toArray, List.getElem?_cons_succ, List.getElem?_cons_zero]; rfl)
          case hsx3db | hfx3db | hrx3db => kernel_rfl
          case hQx3db => exact fun _ _ _ h => h
          case hwx3db => rfl
          case hyx3db =>
            intro W
            go_simp
            try with_reducible rfl
          simp only [Act.put, List.setIfInBounds_toArray, List.set_cons_succ, List.set_cons_zero]
          refine' wpAny_take (i := 4) ?h1x4db ?hsx4db ?hfx4db ?hrx4db ?hQx4db (Or.inl ⟨?hwx4db, ?hyx4db⟩) ?restx4db
          case h1x4db => (simp only [List.getElem?_toArray, List.getElem?_cons_succ, List.getElem?_cons_zero]; rfl)
          case hsx4db | hfx4db | hrx4db => kernel_rfl
          case hQx4db => exact fun _ _ _ h => h
          case hwx4db => rfl
          case hyx4db =>
            intro W
            go_simp
            try with_reducible rfl
          simp only [Act.put, List.setIfInBounds_toArray, List.set_cons_succ, List.set_cons_zero]
          refine wpAny_ready (rs := [0]) (by kernel_rfl) (by simp) ?_
          refine' AllReady.cons ?hoc0db (fun K hK => ?stc0db) AllReady.nil
          case hoc0db => (simp only [List.getElem?_toArray, List.getElem?_cons_zero]; rfl)
          rw [if_pos (by rfl)]
          refine wp_load_row 77 (.tmp 3) rfl w.heap.size rfl 77 _ (0, 0) _ H1.out.1 Tryz.underlying77 rfl (i47 XB.out.1) ?_
          refine hK _ _ ?_
          clear hK K
          try simp only [Act.put, List.setIfInBounds_toArray, List.set_cons_succ, List.set_cons_zero]
          refine wpAny_ready (rs := [1]) (by kernel_rfl) (by simp) ?_
          refine' AllReady.cons ?hoc1db (fun K hK => ?stc1db) AllReady.nil
          case hoc1db => (simp only [List.getElem?_toArray, List.getElem?_cons_succ, List.getElem?_cons_zero]; rfl)
          go_simp
          refine (moved3 _ XB.out _).mono ?_
          rintro e w2 ⟨rfl, hb⟩
          have H2 := Lib.hid (H1.out.below hb)
          clear hb
          go_wp2_with fail
          try refine hK _ _ ?_
          try clear hK K
          try simp only [Act.put, List.setIfInBounds_toArray, List.set_cons_succ, List.set_cons_zero]
          refine wpAny_ready (rs := [5]) (by kernel_rfl) (by simp) ?_
          refine' AllReady.cons ?hoc5db (fun K hK => ?stc5db) AllReady.nil
          case hoc5db => (simp only [List.getElem?_toArray, List.getElem?_cons_succ, List.getElem?_cons_zero]; rfl)
          go_simp
          refine (RP.out _ _ _ H2.out (mv_bts 3 XB.out)).mono ?_
          rintro e w3 ⟨rfl, hb⟩
          have H3 := Lib.hid (H2.out.below hb)
          clear hb
          go_wp2_with fail
          try refine hK _ _ ?_
          try clear hK K
          try simp only [Act.put, List.setIfInBounds_toArray, List.set_cons_succ, List.set_cons_zero]
          refine wpAny_ready (rs := [6]) (by kernel_rfl) (by simp) ?_
          refine' AllReady.cons ?hoc6db (fun K hK => ?stc6db) AllReady.nil
          case hoc6db => (simp only [List.getElem?_toArray, List.getElem?_cons_succ, List.getElem?_cons_zero]; rfl)
          rw [if_pos (by rfl)]
          refine wp_store_row 77 (.tmp 3) (.tmp 31) rfl w.heap.size (ncells (sb T (mv 3 (mx 14 11 13 9 (jn S KK))))) rfl rfl 77 _ H3.out.1 (i47 (sb_bts HTB.out).1) (ns_eq XB.out.1 (sb_bts HTB.out).1) (none_ _) ?_
          refine hK _ _ ?_
          clear hK K
          have H4 := Lib.hid (H3.out.store (sb T (mv 3 (mx 14 11 13 9 (jn S KK)))))
          try simp only [Act.put]
          refine wpAny_done (by kernel_rfl) ?_ _
          go_wp2_with fail
          go_roundw
          case rel =>
            refine ⟨i + 1, by omega, by go_num, ?_⟩
            rw [SN2.out]
            exact H4.out
          case measure => simp [intOf]; omega
    · obtain rfl : i = 14 := by omega
      have TB : Hid (Bts 16 (bkT T (rkf F) b 14)) := bkT_bts HTB.out (rkf F) HBB.out 14
      have TT : Hid (backT T (rkf F) b = jn (bkT T (rkf F) b 14) (rkf F 0)) := rfl
      generalize bkT T (rkf F) b 14 = S at *
      have K0 : Hid (Bts 16 (rkf F 0)) := rkf_bts HFB.out 0
      have JB : Hid (Bts 16 (jn S (rkf F 0))) := jn_bts TB.out K0.out
      generalize rkf F 0 = KK at *
      obtain ⟨J, hJ⟩ : ∃ J, J = jn S KK := ⟨_, rfl⟩
      have HJ : Hid (backT T (rkf F) b = J) := by show _ = _; rw [TT.out, hJ]
      have JN : Hid (∀ W, Calls Tryz.prog 63 #[.agg (ncells S), .agg (ncells KK)] W fun e w' => e = .returned (.agg (ncells J)) ∧ Below W.heap.size W w') := by rw [hJ]; exact joined _ _ TB.out K0.out
      rw [← hJ] at JB
      clear hJ TT
      have H1 := Lib.hid hts.drew
      clear hts
      go_wp2_with fail
      refine wp_region_any (by kernel_rfl) ?_
      change wpAny _ _ _ _ _ _ _ (World.drew _)
      refine' wpAny_take (i := 1) ?h1x1z ?hsx1z ?hfx1z ?hrx1z ?hQx1z (Or.inl ⟨?hwx1z, ?hyx1z⟩) ?restx1z
      case h1x1z => (simp only [List.getElem?_toArray, List.getElem?_cons_succ, List.getElem?_cons_zero]; rfl)
      case hsx1z | hfx1z | hrx1z => kernel_rfl
      case hQx1z => exact fun _ _ _ h => h
      case hwx1z => rfl
      case hyx1z =>
        intro W
        go_simp
        try with_reducible rfl
      simp only [Act.put, List.setIfInBounds_toArray, List.set_cons_succ, List.set_cons_zero]
      refine wpAny_ready (rs := [0, 2]) (by kernel_rfl) (by simp) ?_
      refine' AllReady.cons ?hoc0z (fun K hK => ?stc0z) (AllReady.cons ?hoc2z (fun K hK => ?stc2z) AllReady.nil)
      case hoc0z => (simp only [List.getElem?_toArray, List.getElem?_cons_zero]; rfl)
      case hoc2z => (simp only [List.getElem?_toArray, List.getElem?_cons_succ, List.getElem?_cons_zero]; rfl)
      case stc0z =>
        rw [if_pos (by rfl)]
        refine wp_load_row 77 (.tmp 3) rfl w.heap.size rfl 77 _ (0, 0) _ H1.out.1 Tryz.underlying77 rfl (i47 TB.out.1) ?_
        refine hK _ _ ?_
        clear hK K
        try simp only [Act.put, List.setIfInBounds_toArray, List.set_cons_succ, List.set_cons_zero]
        refine wpAny_ready (rs := [2]) (by kernel_rfl) (by simp) ?_
        refine' AllReady.cons ?hoc2za (fun K hK => ?stc2za) AllReady.nil
        case hoc2za => (simp only [List.getElem?_toArray, List.getElem?_cons_succ, List.getElem?_cons_zero]; rfl)
        go_simp
        refine (RK0.out _ _ H1.out).mono ?_
        rintro e w2 ⟨rfl, hb⟩
        have H2 := Lib.hid (H1.out.below hb)
        clear hb
        go_wp2_with fail
        try refine hK _ _ ?_
        try clear hK K
        try simp only [Act.put, List.setIfInBounds_toArray, List.set_cons_succ, List.set_cons_zero]
        refine wpAny_ready (rs := [3]) (by kernel_rfl) (by simp) ?_
        refine' AllReady.cons ?hoc3za (fun K hK => ?stc3za) AllReady.nil
        case hoc3za => (simp only [List.getElem?_toArray, List.getElem?_cons_succ, List.getElem?_cons_zero]; rfl)
        go_simp
        refine (JN.out _).mono ?_
        rintro e w3 ⟨rfl, hb⟩
        have H3 := Lib.hid (H2.out.below hb)
        clear hb
        go_wp2_with fail
        try refine hK _ _ ?_
        try clear hK K
        try simp only [Act.put, List.setIfInBounds_toArray, List.set_cons_succ, List.set_cons_zero]
        refine wpAny_ready (rs := [4]) (by kernel_rfl) (by simp) ?_
        refine' AllReady.cons ?hoc4za (fun K hK => ?stc4za) AllReady.nil
        case hoc4za => (simp only [List.getElem?_toArray, List.getElem?_cons_succ, List.getElem?_cons_zero]; rfl)
        rw [if_pos (by rfl)]
        refine wp_store_row 77 (.tmp 4) (.tmp 36) rfl (w.heap.size + 1) (ncells J) rfl rfl 77 _ H3.out.2.1 (i47 JB.out.1) (ZL.out _ JB.out.1) (none_ _) ?_
        refine hK _ _ ?_
        clear hK K
        try simp only [Act.put]
        refine wpAny_done (by kernel_rfl) ?_ _
        go_wp2_with fail
        refine bodyPost_ret (v := .agg (ncells J)) (results_cell_row Tryz.results44 _ _ (w.heap.size + 1) 77 _ (0, 0) _ rfl (setRow_heap _ _ _ _ _ _ H3.out.2.1) Tryz.underlying77 rfl (i47 JB.out.1)) rfl ⟨by rw [HJ.out], ?_⟩
        exact H3.out.2.2.2.2.trans (below_row _ _ (by omega))
      case stc2z =>
        go_simp
        refine (RK0.out _ _ H1.out).mono ?_
        rintro e w2 ⟨rfl, hb⟩
        have H2 := Lib.hid (H1.out.below hb)
        clear hb
        go_wp2_with fail
        try refine hK _ _ ?_
        try clear hK K
        try simp only [Act.put, List.setIfInBounds_toArray, List.set_cons_succ, List.set_cons_zero]
        refine wpAny_ready (rs := [0]) (by kernel_rfl) (by simp) ?_
        refine' AllReady.cons ?hoc0zb (fun K hK => ?stc0zb) AllReady.nil
        case hoc0zb => (simp only [List.getElem?_toArray, List.getElem?_cons_zero]; rfl)
        rw [if_pos (by rfl)]
        refine wp_load_row 77 (.tmp 3) rfl w.heap.size rfl 77 _ (0, 0) _ H2.out.1 Tryz.underlying77 rfl (i47 TB.out.1) ?_
        refine hK _ _ ?_
        clear hK K
        try simp only [Act.put, List.setIfInBounds_toArray, List.set_cons_succ, List.set_cons_zero]
        refine wpAny_ready (rs := [3]) (by kernel_rfl) (by simp) ?_
        refine' AllReady.cons ?hoc3zb (fun K hK => ?stc3zb) AllReady.nil
        case hoc3zb => (simp only [List.getElem?_toArray, List.getElem?_cons_succ, List.getElem?_cons_zero]; rfl)
        go_simp
        refine (JN.out _).mono ?_
        rintro e w3 ⟨rfl, hb⟩
        have H3 := Lib.hid (H2.out.below hb)
        clear hb
        go_wp2_with fail
        try refine hK _ _ ?_
        try clear hK K
        try simp only [Act.put, List.setIfInBounds_toArray, List.set_cons_succ, List.set_cons_zero]
        refine wpAny_ready (rs := [4]) (by kernel_rfl) (by simp) ?_
        refine' AllReady.cons ?hoc4zb (fun K hK => ?stc4zb) AllReady.nil
        case hoc4zb => (simp only [List.getElem?_toArray, List.getElem?_cons_succ, List.getElem?_cons_zero]; rfl)
        rw [if_pos (by rfl)]
        refine wp_store_row 77 (.tmp 4) (.tmp 36) rfl (w.heap.size + 1) (ncells J) rfl rfl 77 _ H3.out.2.1 (i47 JB.out.1) (ZL.out _ JB.out.1) (none_ _) ?_
        refine hK _ _ ?_
        clear hK K
        try simp only [Act.put]
        refine wpAny_done (by kernel_rfl) ?_ _
        go_wp2_with fail
        refine bodyPost_ret (v := .agg (ncells J)) (results_cell_row Tryz.results44 _ _ (w.heap.size + 1) 77 _ (0, 0) _ rfl (setRow_heap _ _ _ _ _ _ H3.out.2.1) Tryz.underlying77 rfl (i47 JB.out.1)) rfl ⟨by rw [HJ.out], ?_⟩
        exact H3.out.2.2.2.2.trans (below_row _ _ (by omega))
end Go.Proofs.YtpkeofioobmmoaaGreatDoor.ae
