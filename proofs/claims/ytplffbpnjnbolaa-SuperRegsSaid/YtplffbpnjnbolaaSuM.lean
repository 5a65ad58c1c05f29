/-
  Contracts of the functions that the statements of package super go through: the document's register of 64 bytes. Condition: the slice reads as 64 bytes.
-/
import Derived.Test.YtplffbpnjnbolaaSuL
namespace Go.Proofs.Ytplffbpnjnbolaa
open Go.RowKit octetPuts
def Qz : Array Value := qcells (.slice none 0 0) 0 0 0
def RefGP (w : World) (xs : List Int) (e : Ending) (w' : World) : Prop :=
  ((gRe xs = 0 ∧ ∃ x c, e = .returned (.tuple #[.agg (qcells (.slice x 32 c) (gR xs).g (gR xs).e (gR xs).k), .int .i64 0]) ∧ Sees w' (.slice x 32 c) (gR xs).z) ∨ (gRe xs ≠ 0 ∧ e = .returned (.tuple #[.agg Qz, .int .i64 (gRe xs)]))) ∧ Below w.heap.size w w'
theorem byt_one {xs : List Int} (i : Nat) (hi : i < xs.length) : numI (pt xs i 1) = nth xs i := by
  have e : pt xs i 1 = [nth xs i] := by
    unfold pt
    rw [List.drop_eq_getElem_cons hi, List.take_succ_cons, List.take_zero]
    simp [nth, List.getD, hi]
  rw [e]
  simp [numI]
set_option maxRecDepth 100000 in
set_option maxHeartbeats 16000000 in
theorem refRG (b o cap : Nat) (xs : List Int) (hl : xs.length = 64) (hca : 64 ≤ cap) (hcm : cap ≤ maxLen) (w : World) (h : Sees w (.slice (some ⟨b, o, none⟩) 64 cap) xs) : Calls Try.prog 22 #[.slice (some ⟨b, o, none⟩) 64 cap] w (RefGP w xs) := by
  have hby := h.1
  have SB := Lib.hid h
  unfold maxLen at hcm
  have h6 : ∀ i, i < xs.length → w.cell? ⟨b, o + i, none⟩ = some (.int .u8 (nth xs i)) := fun i hi => h.cell i hi
  have hz52 : ∀ w : World, (zeroValue 52).run Try.prog w = .ok (.agg Qz) w := z52
  have BY : Hid (∀ w : World, (Instr.build 52 #[]).run Try.prog w = .ok (.agg Qz) w) := bld52
  have IZ : Hid ((Try.prog.info? 52).map (·.size) = some Qz.size) := i52 0 0 0 (.slice none 0 0)
  have OZ : Hid (Qz.all (·.oneCell') = true) := one_qcells 0 0 0 none 0 0
  by_cases hq0 : xs = zs 64
  · have NT : Hid (decide (xs = zs xs.length) = true) := by show _ = _; rw [hl]; exact decide_eq_true hq0
    have e4 : gRe xs = 4 := if_pos hq0
    have P : Hid (∀ W', Below w.heap.size w W' → RefGP w xs (.returned (.tuple #[.agg Qz, .int .i64 4])) W') := fun W' hb => ⟨.inr ⟨by rw [e4]; decide, by rw [e4]⟩, hb⟩
    generalize Qz = Z at *
    have G := Lib.hid (heap_alloc_new w (.cells Z 52))
    have R := Lib.hid (alloc_setRowT w Z Z 52 _ rfl)
    have BE : Hid (Below w.heap.size w (w.alloc (.cells Z 52))) := (Below.refl _ _).alloc (Nat.le_refl _) _
    have SV := Lib.hid (SB.out.below BE.out)
    clear h hl e4 h6 hby hq0
    go_enter Try.func22, Try.ntmps22
    go_wp2_with fail
    refine (nought _ _ _ SV.out).mono ?_
    rw [NT.out]
    rintro e w' ⟨rfl, rfl⟩
    go_wp2_with (first
      | (refine wpList_blank_met rfl 52 rfl (BY.out _) ?_)
      | (refine wpList_store_row rfl 52 (.tmp 2) (.tmp 9) rfl w.heap.size Z rfl rfl 52 Z G.out IZ.out rfl OZ.out ?_; rw [R.out]))
    exact bodyPost_ret (v := .tuple #[.agg Z, .int .i64 4]) (results_cell_tmp Try.results22 _ _ w.heap.size 52 Z (0, 0) _ rfl G.out Try.underlying52 rfl IZ.out) rfl (P.out _ BE.out)
  · have NT : Hid (decide (xs = zs xs.length) = false) := by show _ = _; rw [hl]; exact decide_eq_false hq0
    have hok := gR_ok hby hl
    have SP : ∀ p n, n ≠ 0 → p + n ≤ 64 → p < cap → Sees w (.slice (some ⟨b, o + p, none⟩) n (cap - p)) (pt xs p n) := fun p n hn hp _ => by
      have hln := pt_len xs p n (by omega)
      refine ⟨pt_byt hby _ _, .inr (.inr ⟨b, o + p, cap - p, by rw [hln], fun e => by rw [e] at hln; simp at hln; omega, by omega, by unfold maxLen; omega, fun i hi => ?_⟩)⟩
      have := part_sees w b o xs h6 p n (by omega) i hi
      have hplain : (⟨b, o + p, none⟩ : Addr).add i = ⟨b, o + p + i, none⟩ := by unfold Addr.add; split <;> simp_all
      rwa [hplain] at this
    have S0 : Hid (Sees w (.slice (some ⟨b, o, none⟩) 32 cap) (gR xs).z) := SP 0 32 (by decide) (by decide) (by omega)
    have S1 := Lib.hid (SP 32 8 (by decide) (by decide) (by omega))
    have S2 := Lib.hid (SP 40 8 (by decide) (by decide) (by omega))
    have C48 := Lib.hid (h6 48 (by omega))
    have hk48 : nth xs 48 = (gR xs).k := (byt_one 48 (by omega)).symm
    rw [hk48] at C48
    have N1 : Hid (∀ W, Below w.heap.size w W → Calls Try.prog 44 #[.slice (some ⟨b, o + 32, none⟩) 8 (cap - 32)] W fun e w' => e = .returned (.int .u64 (gR xs).g) ∧ W = w') := fun W hW => number _ _ (by rw [pt_len xs 32 8 (by omega)]; decide) W (S1.out.below hW)
    have N2 : Hid (∀ W, Below w.heap.size w W → Calls Try.prog 44 #[.slice (some ⟨b, o + 40, none⟩) 8 (cap - 40)] W fun e w' => e = .returned (.int .u64 (gR xs).e) ∧ W = w') := fun W hW => number _ _ (by rw [pt_len xs 40 8 (by omega)]; decide) W (S2.out.below hW)
    have WH : Hid (∀ W, Sees W (.slice (some ⟨b, o, none⟩) 32 cap) (gR xs).z → Calls Try.prog 19 #[.agg (qcells (.slice (some ⟨b, o, none⟩) 32 cap) (gR xs).g (gR xs).e (gR xs).k)] W (RefWGP W (gR xs))) := fun W hs => refWG (gR xs) hok _ _ W hs
    have BC := Lib.hid (bld52c (gR xs).g (gR xs).e (gR xs).k (some ⟨b, o, none⟩) 32 cap)
    have IC := Lib.hid (i52 (gR xs).g (gR xs).e (gR xs).k (.slice (some ⟨b, o, none⟩) 32 cap))
    have OC := Lib.hid (one_qcells (gR xs).g (gR xs).e (gR xs).k (some ⟨b, o, none⟩) 32 cap)
    have ZC : Hid (Qz.size = (qcells (.slice (some ⟨b, o, none⟩) 32 cap) (gR xs).g (gR xs).e (gR xs).k).size) := rfl
    have YES : Hid ((gR xs).k ≤ 1 → gW (gR xs) = xs → ∀ W', Below w.heap.size w W' → RefGP w xs (.returned (.tuple #[.agg (qcells (.slice (some ⟨b, o, none⟩) 32 cap) (gR xs).g (gR xs).e (gR xs).k), .int .i64 0])) W') := fun h1 h2 W' hb => by
      have e0 : gRe xs = 0 := by unfold gRe; rw [if_neg hq0, if_pos ⟨h1, h2⟩]
      exact ⟨.inl ⟨e0, _, _, rfl, S0.out.below hb⟩, hb⟩
    have NO : Hid (¬ ((gR xs).k ≤ 1 ∧ gW (gR xs) = xs) → ∀ W', Below w.heap.size w W' → RefGP w xs (.returned (.tuple #[.agg Qz, .int .i64 3])) W') := fun h1 W' hb => by
      have e3 : gRe xs = 3 := by unfold gRe; rw [if_neg hq0, if_neg h1]
      exact ⟨.inr ⟨by rw [e3]; decide, by rw [e3]⟩, hb⟩
    have SE := Lib.hid (fun (h : Byt (gW (gR xs))) => str_eq (gW (gR xs)) xs h hby)
    have BW : Hid (Byt (gW (gR xs))) := gW_byt hok.2.2.2.1
    have EY : Hid ((gR xs).k ≤ 1 → gE (gR xs) = 0 ∧ gV (gR xs) = gW (gR xs)) := fun hm => ⟨if_pos hm, if_pos hm⟩
    have EN : Hid (¬ (gR xs).k ≤ 1 → gE (gR xs) = 3) := fun hm => if_neg hm
    generalize hDC : qcells (.slice (some ⟨b, o, none⟩) 32 cap) (gR xs).g (gR xs).e (gR xs).k = DC at *
    have KM : Hid (∀ P : Prop, ((gR xs).k ≤ 1 → P) → (¬ (gR xs).k ≤ 1 → P) → P) := fun P h1 h2 => by
      by_cases hm : (gR xs).k ≤ 1
      · exact h1 hm
      · exact h2 hm
    generalize (gR xs).g = hg at *
    generalize (gR xs).e = he at *
    generalize hhk : (gR xs).k = hk at *
    generalize Qz = Z at *
    obtain ⟨W1, hW1⟩ : ∃ W1, W1 = w.alloc (.cells Z 52) := ⟨_, rfl⟩
    have B1 : Hid (Below w.heap.size w W1) := by rw [hW1]; exact (Below.refl _ _).alloc (Nat.le_refl _) _
    have GR : Hid (W1.heap[w.heap.size]? = some (.cells Z 52 (0, 0))) := by rw [hW1]; exact heap_alloc_new w _
    have SV := Lib.hid (SB.out.below B1.out)
    have HW1 := Lib.hid hW1
    have h32 : ¬ (cap = 32) := by omega
    have h40 : ¬ (cap = 40) := by omega
    have K1 : Hid ((32 : Int) ≤ cap) := by show _ ≤ _; omega
    have K2 : Hid ((40 : Int) ≤ cap) := by show _ ≤ _; omega
    have K3 : Hid ((48 : Int) ≤ cap) := by show _ ≤ _; omega
    clear hW1 h hl h6 SP hok hDC hk48 hq0 KM hhk
    go_enter Try.func22, Try.ntmps22
    go_wp2_with fail
    rw [← HW1.out]
    refine (nought _ _ _ SV.out).mono ?_
    rw [NT.out]
    rintro e w' ⟨rfl, rfl⟩
    go_wp2_with fail
    refine wp_region_held_drew (S := fun W => Below w.heap.size w W ∧ W.heap[w.heap.size]? = some (.cells Z 52 (0, 0))) (by kernel_rfl) (⟨B1.out.drew, GR.out⟩) (fun hS => ?_)
    refine' wpAnyH_take (i := 0) ?h1x0a ?hsx0a ?hfx0a ?hrx0a ?hQx0a (Or.inl ⟨?hwx0a, ?hyx0a⟩) hS ?restx0a
    case h1x0a => (simp only [List.getElem?_toArray, List.getElem?_cons_zero]; rfl)
    case hsx0a => kernel_rfl
    case hfx0a => kernel_rfl
    case hrx0a => kernel_rfl
    case hQx0a => exact fun _ _ _ h => h
    case hwx0a => rfl
    case hyx0a =>
      intro W hW
      go_simp
      try with_reducible rfl
    simp only [Act.put, List.setIfInBounds_toArray, List.set_cons_succ, List.set_cons_zero]
    refine' wpAnyH_take (i := 1) ?h1x1a ?hsx1a ?hfx1a ?hrx1a ?hQx1a (Or.inl ⟨?hwx1a, ?hyx1a⟩) hS ?restx1a
    case h1x1a => (simp only [List.getElem?_toArray, List.getElem?_cons_succ, List.getElem?_cons_zero]; rfl)
    case hsx1a => kernel_rfl
    case hfx1a => kernel_rfl
    case hrx1a => kernel_rfl
    case hQx1a => exact fun _ _ _ h => h
    case hwx1a => rfl
    case hyx1a =>
      intro W hW
      have dd := K1.out
      go_simp
      try with_reducible rfl
    simp only [Act.put, List.setIfInBounds_toArray, List.set_cons_succ, List.set_cons_zero]
    refine' wpAnyH_take (i := 2) ?h1x2a ?hsx2a ?hfx2a ?hrx2a ?hQx2a (Or.inl ⟨?hwx2a, ?hyx2a⟩) hS ?restx2a
    case h1x2a => (simp only [List.getElem?_toArray, List.getElem?_cons_succ, List.getElem?_cons_zero]; rfl)
    case hsx2a => kernel_rfl
    case hfx2a => kernel_rfl
    case hrx2a => kernel_rfl
    case hQx2a => exact fun _ _ _ h => h
    case hwx2a => rfl
    case hyx2a =>
      intro W hW
      go_simp
      try with_reducible rfl
    simp only [Act.put, List.setIfInBounds_toArray, List.set_cons_succ, List.set_cons_zero]
    refine' wpAnyH_take (i := 3) ?h1x3a ?hsx3a ?hfx3a ?hrx3a ?hQx3a (Or.inl ⟨?hwx3a, ?hyx3a⟩) hS ?restx3a
    case h1x3a => (simp only [List.getElem?_toArray, List.getElem?_cons_succ, List.getElem?_cons_zero]; rfl)
    case hsx3a => kernel_rfl
    case hfx3a => kernel_rfl
    case hrx3a => kernel_rfl
    case hQx3a => exact fun _ _ _ h => h
    case hwx3a => rfl
    case hyx3a =>
      intro W hW
      have dd := K2.out
      go_simp
      try with_reducible rfl
    simp only [Act.put, List.setIfInBounds_toArray, List.set_cons_succ, List.set_cons_zero]
    refine' wpAnyH_take (i := 5) ?h1x5a ?hsx5a ?hfx5a ?hrx5a ?hQx5a (Or.inl ⟨?hwx5a, ?hyx5a⟩) hS ?restx5a
    case h1x5a => (simp only [List.getElem?_toArray, List.getElem?_cons_succ, List.getElem?_cons_zero]; rfl)
    case hsx5a => kernel_rfl
    case hfx5a => kernel_rfl
    case hrx5a => kernel_rfl
    case hQx5a => exact fun _ _ _ h => h
    case hwx5a => rfl
    case hyx5a =>
      intro W hW
      go_simp
      try with_reducible rfl
    simp only [Act.put, List.setIfInBounds_toArray, List.set_cons_succ, List.set_cons_zero]
    refine' wpAnyH_take (i := 6) ?h1x6a ?hsx6a ?hfx6a ?hrx6a ?hQx6a (Or.inl ⟨?hwx6a, ?hyx6a⟩) hS ?restx6a
    case h1x6a => (simp only [List.getElem?_toArray, List.getElem?_cons_succ, List.getElem?_cons_zero]; rfl)
    case hsx6a => kernel_rfl
    case hfx6a => kernel_rfl
    case hrx6a => kernel_rfl
    case hQx6a => exact fun _ _ _ h => h
    case hwx6a => rfl
    case hyx6a =>
      intro W hW
      have dd := K3.out
      go_simp
      try with_reducible rfl
    simp only [Act.put, List.setIfInBounds_toArray, List.set_cons_succ, List.set_cons_zero]
    refine' wpAnyH_take (i := 8) ?h1x8a ?hsx8a ?hfx8a ?hrx8a ?hQx8a (Or.inl ⟨?hwx8a, ?hyx8a⟩) hS ?restx8a
    case h1x8a => (simp only [List.getElem?_toArray, List.getElem?_cons_succ, List.getElem?_cons_zero]; rfl)
    case hsx8a => kernel_rfl
    case hfx8a => kernel_rfl
    case hrx8a => kernel_rfl
    case hQx8a => exact fun _ _ _ h => h
    case hwx8a => rfl
    case hyx8a =>
      intro W hW
      go_simp
      try with_reducible rfl
    simp only [Act.put, List.setIfInBounds_toArray, List.set_cons_succ, List.set_cons_zero]
    refine' wpAnyH_take (i := 9) ?h1x9a ?hsx9a ?hfx9a ?hrx9a ?hQx9a (Or.inl ⟨?hwx9a, ?hyx9a⟩) hS ?restx9a
    case h1x9a => (simp only [List.getElem?_toArray, List.getElem?_cons_succ, List.getElem?_cons_zero]; rfl)
    case hsx9a => kernel_rfl
    case hfx9a => kernel_rfl
    case hrx9a => kernel_rfl
    case hQx9a => exact fun _ _ _ h => h
    case hwx9a => rfl
    case hyx9a =>
      intro W hW
      go_simp
      try with_reducible rfl
    simp only [Act.put, List.setIfInBounds_toArray, List.set_cons_succ, List.set_cons_zero]
    refine' wpAnyH_take (i := 10) ?h1x10a ?hsx10a ?hfx10a ?hrx10a ?hQx10a (Or.inl ⟨?hwx10a, ?hyx10a⟩) hS ?restx10a
    case h1x10a => (simp only [List.getElem?_toArray, List.getElem?_cons_succ, List.getElem?_cons_zero]; rfl)
    case hsx10a => kernel_rfl
    case hfx10a => kernel_rfl
    case hrx10a => kernel_rfl
    case hQx10a => exact fun _ _ _ h => h
    case hwx10a => rfl
    case hyx10a =>
      intro W hW
      have dd : W.cell? ⟨b, o + 48, none⟩ = some (.int .u8 hk) := (hW.1.cell (World.block_lt_of_cell? w _ C48.out)).trans C48.out
      go_simp
      try with_reducible rfl
    simp only [Act.put, List.setIfInBounds_toArray, List.set_cons_succ, List.set_cons_zero]
    refine wpAnyH_ready (rs := [4, 12]) (by kernel_rfl) (by simp) ?_
    refine' (AllReadyH.cons ?hoc4a (fun K hK => ?stc4a) (AllReadyH.cons ?hoc12a (fun K hK => ?stc12a) AllReadyH.nil))
    case hoc4a => (simp only [List.getElem?_toArray, List.getElem?_cons_succ, List.getElem?_cons_zero]; rfl)
    case hoc12a => (simp only [List.getElem?_toArray, List.getElem?_cons_succ, List.getElem?_cons_zero]; rfl)
    case stc4a =>
      go_simp
      refine (N1.out _ hS.1).mono ?_
      rintro e wq ⟨rfl, rfl⟩
      go_wp2_with fail
      refine hK.out _ _ hS (fun hHeld => ?_)
      clear hK K hHeld
      try simp only [Act.put, List.setIfInBounds_toArray, List.set_cons_succ, List.set_cons_zero]
      refine wpAnyH_ready (rs := [7, 12]) (by kernel_rfl) (by simp) ?_
      refine' (AllReadyH.cons ?hoc7ay4y (fun K hK => ?stc7ay4y) (AllReadyH.cons ?hoc12ay4y (fun K hK => ?stc12ay4y) AllReadyH.nil))
      case hoc7ay4y => (simp only [List.getElem?_toArray, List.getElem?_cons_succ, List.getElem?_cons_zero]; rfl)
      case hoc12ay4y => (simp only [List.getElem?_toArray, List.getElem?_cons_succ, List.getElem?_cons_zero]; rfl)
      case stc7ay4y =>
        go_simp
        refine (N2.out _ hS.1).mono ?_
        rintro e wq ⟨rfl, rfl⟩
        go_wp2_with fail
        refine hK.out _ _ hS (fun hHeld => ?_)
        clear hK K hHeld
        try simp only [Act.put, List.setIfInBounds_toArray, List.set_cons_succ, List.set_cons_zero]
        refine wpAnyH_ready (rs := [11, 12]) (by kernel_rfl) (by simp) ?_
        refine' (AllReadyH.cons ?hoc11ay4yy7y (fun K hK => ?stc11ay4yy7y) (AllReadyH.cons ?hoc12ay4yy7y (fun K hK => ?stc12ay4yy7y) AllReadyH.nil))
        case hoc11ay4yy7y => (simp only [List.getElem?_toArray, List.getElem?_cons_succ, List.getElem?_cons_zero]; rfl)
        case hoc12ay4yy7y => (simp only [List.getElem?_toArray, List.getElem?_cons_succ, List.getElem?_cons_zero]; rfl)
        case stc11ay4yy7y =>
          refine step_build_run rfl 52 #[(0, .tmp 11), (1, .tmp 14), (2, .tmp 17), (3, .tmp 20)] rfl #[(0, .slice (some ⟨b, o, none⟩) 32 cap), (1, .int .u64 hg), (2, .int .u64 he), (3, .int .u8 hk)] (by kernel_rfl) (BC.out _) ?_
          refine hK.out _ _ hS (fun hHeld => ?_)
          clear hK K hHeld
          try simp only [Act.put, List.setIfInBounds_toArray, List.set_cons_succ, List.set_cons_zero]
          refine wpAnyH_ready (rs := [12]) (by kernel_rfl) (by simp) ?_
          refine' AllReadyH.cons ?hoc12ay4yy7yy11y (fun K hK => ?stc12ay4yy7yy11y) AllReadyH.nil
          case hoc12ay4yy7yy11y => (simp only [List.getElem?_toArray, List.getElem?_cons_succ, List.getElem?_cons_zero]; rfl)
          refine step_alloc_run rfl 52 rfl (hz52 _) ?_
          have hal : Below W1.drew.heap.size W1.drew (W1.drew.alloc (.cells Z 52)) := (Below.refl _ _).alloc (Nat.le_refl _) _
          refine hK.out _ _ ⟨hS.1.trans (hal.mono B1.out.size), (hal.block _ (blk_lt GR.out)).trans hS.2⟩ (fun hHeld => ?_)
          clear hK K
          have G5 : Hid ((W1.drew.alloc (.cells Z 52)).heap[W1.heap.size]? = some (.cells Z 52 (0, 0))) := heap_alloc_new W1.drew _
          try simp only [Act.put, List.setIfInBounds_toArray, List.set_cons_succ, List.set_cons_zero]
          rw [show W1.drew.heap.size = W1.heap.size from rfl]
          have GN : w.heap.size ≠ W1.heap.size ∧ w.heap.size ≤ W1.heap.size := ⟨by have := blk_lt GR.out; omega, B1.out.size⟩
          clear hS hal
          have hS := hHeld
          clear hHeld
          generalize W1.drew.alloc (.cells Z 52) = WA at *
          generalize W1.heap.size = g5 at *
          refine wpAnyH_ready (rs := [13]) (by kernel_rfl) (by simp) ?_
          refine' AllReadyH.cons ?hoc13ay4yy7yy11y (fun K hK => ?stc13ay4yy7yy11y) AllReadyH.nil
          case hoc13ay4yy7yy11y => (simp only [List.getElem?_toArray, List.getElem?_cons_succ, List.getElem?_cons_zero]; rfl)
          refine step_store_row rfl 52 (.tmp 4) (.tmp 21) rfl g5 DC rfl rfl 52 Z G5.out IC.out ZC.out OC.out ?_
          refine hK.out _ _ ⟨hS.1.trans (below_row _ _ GN.2), (setRow_other _ _ _ _ GN.1).trans hS.2⟩ (fun hHeld => ?_)
          clear hK K
          simp only [Act.put]
          clear hS
          have hS := hHeld
          clear hHeld
          have GS : Hid ((WA.setRow g5 DC).heap[g5]? = some (.cells DC 52 (0, 0))) := setRow_heap _ _ _ _ _ _ G5.out
          have GRR := Lib.hid hS.2
          have BB := Lib.hid hS.1
          clear hS
          refine wpAnyH_done (by kernel_rfl) ?_ _
          generalize WA.setRow g5 DC = W5 at *
          go_wp2_with (refine wpList_load_row rfl 52 (.tmp 4) rfl g5 rfl 52 DC (0, 0) _ GS.out Try.underlying52 rfl IC.out ?_)
          refine (WH.out _ (S0.out.below BB.out)).mono ?_
          rintro e W6 ⟨u, he', hu, hb⟩
          have B6 := Lib.hid (BB.out.trans (hb.mono BB.out.size))
          have GR6 := Lib.hid ((hb.block _ (blk_lt GRR.out)).trans GRR.out)
          have GS6 := Lib.hid ((hb.block _ (blk_lt GS.out)).trans GS.out)
          obtain ⟨ux, uc, rfl, _⟩ := hu.form
          have sb := (SB.out.below B6.out).str
          by_cases hm : hk ≤ 1
          · obtain ⟨e0, e1⟩ := EY.out hm
            rw [e0] at he'
            rw [e1] at hu he'
            subst he'
            have su := hu.str
            have se := SE.out BW.out
            by_cases hq : gW (gR xs) = xs
            · rw [decide_eq_true hq] at se
              have Y3 := Lib.hid (YES.out hm hq)
              generalize gW (gR xs) = WW at *
              clear hu hb YES NO EY EN SE hm hq e0 e1 WH BW
              go_wp2_with (first
                | (refine wpList_load_row rfl 52 (.tmp 4) rfl g5 rfl 52 DC (0, 0) _ GS6.out Try.underlying52 rfl IC.out ?_)
                | (refine wpList_store_row rfl 52 (.tmp 2) (.tmp 37) rfl w.heap.size DC rfl rfl 52 Z GR6.out IC.out ZC.out OC.out ?_))
              exact bodyPost_ret (v := .tuple #[.agg DC, .int .i64 0]) (results_cell_tmp Try.results22 _ _ w.heap.size 52 DC (0, 0) _ rfl (setRow_heap _ _ _ _ _ _ GR6.out) Try.underlying52 rfl IC.out) rfl (Y3.out _ (B6.out.trans (below_row _ _ (Nat.le_refl _))))
            · rw [decide_eq_false hq] at se
              have N3' := Lib.hid (NO.out (fun h => hq h.2))
              generalize gW (gR xs) = WW at *
              clear hu hb YES NO EY EN SE hm hq e0 e1 WH BW
              go_wp2_with (first
                | (refine wpList_store_row rfl 52 (.tmp 2) (.tmp 36) rfl w.heap.size Z rfl rfl 52 Z GR6.out IZ.out rfl OZ.out ?_)
                | (refine wpList_blank_met rfl 52 rfl (BY.out _) ?_))
              exact bodyPost_ret (v := .tuple #[.agg Z, .int .i64 3]) (results_cell_tmp Try.results22 _ _ w.heap.size 52 Z (0, 0) _ rfl (setRow_heap _ _ _ _ _ _ GR6.out) Try.underlying52 rfl IZ.out) rfl (N3'.out _ (B6.out.trans (below_row _ _ (Nat.le_refl _))))
          · rw [EN.out (by omega)] at he'
            subst he'
            have N3' := Lib.hid (NO.out (fun h => hm h.1))
            clear hu hb YES NO EY EN SE hm WH BW
            go_wp2_with (first
              | (refine wpList_store_row rfl 52 (.tmp 2) (.tmp 36) rfl w.heap.size Z rfl rfl 52 Z GR6.out IZ.out rfl OZ.out ?_)
              | (refine wpList_blank_met rfl 52 rfl (BY.out _) ?_))
            exact bodyPost_ret (v := .tuple #[.agg Z, .int .i64 3]) (results_cell_tmp Try.results22 _ _ w.heap.size 52 Z (0, 0) _ rfl (setRow_heap _ _ _ _ _ _ GR6.out) Try.underlying52 rfl IZ.out) rfl (N3'.out _ (B6.out.trans (below_row _ _ (Nat.le_refl _))))
        case stc12ay4yy7y =>
          refine step_alloc_run rfl 52 rfl (hz52 _) ?_
          have hal : Below W1.drew.heap.size W1.drew (W1.drew.alloc (.cells Z 52)) := (Below.refl _ _).alloc (Nat.le_refl _) _
          refine hK.out _ _ ⟨hS.1.trans (hal.mono B1.out.size), (hal.block _ (blk_lt GR.out)).trans hS.2⟩ (fun hHeld => ?_)
          clear hK K
          have G5 : Hid ((W1.drew.alloc (.cells Z 52)).heap[W1.heap.size]? = some (.cells Z 52 (0, 0))) := heap_alloc_new W1.drew _
          try simp only [Act.put, List.setIfInBounds_toArray, List.set_cons_succ, List.set_cons_zero]
          rw [show W1.drew.heap.size = W1.heap.size from rfl]
          have GN : w.heap.size ≠ W1.heap.size ∧ w.heap.size ≤ W1.heap.size := ⟨by have := blk_lt GR.out; omega, B1.out.size⟩
          clear hS hal
          have hS := hHeld
          clear hHeld
          generalize W1.drew.alloc (.cells Z 52) = WA at *
          generalize W1.heap.size = g5 at *
          refine wpAnyH_ready (rs := [11]) (by kernel_rfl) (by simp) ?_
          refine' AllReadyH.cons ?hoc11ay4yy7yy12y (fun K hK => ?stc11ay4yy7yy12y) AllReadyH.nil
          case hoc11ay4yy7yy12y => (simp only [List.getElem?_toArray, List.getElem?_cons_succ, List.getElem?_cons_zero]; rfl)
          refine step_build_run rfl 52 #[(0, .tmp 11), (1, .tmp 14), (2, .tmp 17), (3, .tmp 20)] rfl #[(0, .slice (some ⟨b, o, none⟩) 32 cap), (1, .int .u64 hg), (2, .int .u64 he), (3, .int .u8 hk)] (by kernel_rfl) (BC.out _) ?_
          refine hK.out _ _ hS (fun hHeld => ?_)
          clear hK K hHeld
          try simp only [Act.put, List.setIfInBounds_toArray, List.set_cons_succ, List.set_cons_zero]
          refine wpAnyH_ready (rs := [13]) (by kernel_rfl) (by simp) ?_
          refine' AllReadyH.cons ?hoc13ay4yy7yy12y (fun K hK => ?stc13ay4yy7yy12y) AllReadyH.nil
          case hoc13ay4yy7yy12y => (simp only [List.getElem?_toArray, List.getElem?_cons_succ, List.getElem?_cons_zero]; rfl)
          refine step_store_row rfl 52 (.tmp 4) (.tmp 21) rfl g5 DC rfl rfl 52 Z G5.out IC.out ZC.out OC.out ?_
          refine hK.out _ _ ⟨hS.1.trans (below_row _ _ GN.2), (setRow_other _ _ _ _ GN.1).trans hS.2⟩ (fun hHeld => ?_)
          clear hK K
          simp only [Act.put]
          clear hS
          have hS := hHeld
          clear hHeld
          have GS : Hid ((WA.setRow g5 DC).heap[g5]? = some (.cells DC 52 (0, 0))) := setRow_heap _ _ _ _ _ _ G5.out
          have GRR := Lib.hid hS.2
          have BB := Lib.hid hS.1
          clear hS
          refine wpAnyH_done (by kernel_rfl) ?_ _
          generalize WA.setRow g5 DC = W5 at *
          go_wp2_with (refine wpList_load_row rfl 52 (.tmp 4) rfl g5 rfl 52 DC (0, 0) _ GS.out Try.underlying52 rfl IC.out ?_)
          refine (WH.out _ (S0.out.below BB.out)).mono ?_
          rintro e W6 ⟨u, he', hu, hb⟩
          have B6 := Lib.hid (BB.out.trans (hb.mono BB.out.size))
          have GR6 := Lib.hid ((hb.block _ (blk_lt GRR.out)).trans GRR.out)
          have GS6 := Lib.hid ((hb.block _ (blk_lt GS.out)).trans GS.out)
          obtain ⟨ux, uc, rfl, _⟩ := hu.form
          have sb := (SB.out.below B6.out).str
          by_cases hm : hk ≤ 1
          · obtain ⟨e0, e1⟩ := EY.out hm
            rw [e0] at he'
            rw [e1] at hu he'
            subst he'
            have su := hu.str
            have se := SE.out BW.out
            by_cases hq : gW (gR xs) = xs
            · rw [decide_eq_true hq] at se
              have Y3 := Lib.hid (YES.out hm hq)
              generalize gW (gR xs) = WW at *
              clear hu hb YES NO EY EN SE hm hq e0 e1 WH BW
              go_wp2_with (first
                | (refine wpList_load_row rfl 52 (.tmp 4) rfl g5 rfl 52 DC (0, 0) _ GS6.out Try.underlying52 rfl IC.out ?_)
                | (refine wpList_store_row rfl 52 (.tmp 2) (.tmp 37) rfl w.heap.size DC rfl rfl 52 Z GR6.out IC.out ZC.out OC.out ?_))
              exact bodyPost_ret (v := .tuple #[.agg DC, .int .i64 0]) (results_cell_tmp Try.results22 _ _ w.heap.size 52 DC (0, 0) _ rfl (setRow_heap _ _ _ _ _ _ GR6.out) Try.underlying52 rfl IC.out) rfl (Y3.out _ (B6.out.trans (below_row _ _ (Nat.le_refl _))))
            · rw [decide_eq_false hq] at se
              have N3' := Lib.hid (NO.out (fun h => hq h.2))
              generalize gW (gR xs) = WW at *
              clear hu hb YES NO EY EN SE hm hq e0 e1 WH BW
              go_wp2_with (first
                | (refine wpList_store_row rfl 52 (.tmp 2) (.tmp 36) rfl w.heap.size Z rfl rfl 52 Z GR6.out IZ.out rfl OZ.out ?_)
                | (refine wpList_blank_met rfl 52 rfl (BY.out _) ?_))
              exact bodyPost_ret (v := .tuple #[.agg Z, .int .i64 3]) (results_cell_tmp Try.results22 _ _ w.heap.size 52 Z (0, 0) _ rfl (setRow_heap _ _ _ _ _ _ GR6.out) Try.underlying52 rfl IZ.out) rfl (N3'.out _ (B6.out.trans (below_row _ _ (Nat.le_refl _))))
          · rw [EN.out (by omega)] at he'
            subst he'
            have N3' := Lib.hid (NO.out (fun h => hm h.1))
            clear hu hb YES NO EY EN SE hm WH BW
            go_wp2_with (first
              | (refine wpList_store_row rfl 52 (.tmp 2) (.tmp 36) rfl w.heap.size Z rfl rfl 52 Z GR6.out IZ.out rfl OZ.out ?_)
              | (refine wpList_blank_met rfl 52 rfl (BY.out _) ?_))
            exact bodyPost_ret (v := .tuple #[.agg Z, .int .i64 3]) (results_cell_tmp Try.results22 _ _ w.heap.size 52 Z (0, 0) _ rfl (setRow_heap _ _ _ _ _ _ GR6.out) Try.underlying52 rfl IZ.out) rfl (N3'.out _ (B6.out.trans (below_row _ _ (Nat.le_refl _))))
      case stc12ay4y =>
        refine step_alloc_run rfl 52 rfl (hz52 _) ?_
        have hal : Below W1.drew.heap.size W1.drew (W1.drew.alloc (.cells Z 52)) := (Below.refl _ _).alloc (Nat.le_refl _) _
        refine hK.out _ _ ⟨hS.1.trans (hal.mono B1.out.size), (hal.block _ (blk_lt GR.out)).trans hS.2⟩ (fun hHeld => ?_)
        clear hK K
        have G5 : Hid ((W1.drew.alloc (.cells Z 52)).heap[W1.heap.size]? = some (.cells Z 52 (0, 0))) := heap_alloc_new W1.drew _
        try simp only [Act.put, List.setIfInBounds_toArray, List.set_cons_succ, List.set_cons_zero]
        rw [show W1.drew.heap.size = W1.heap.size from rfl]
        have GN : w.heap.size ≠ W1.heap.size ∧ w.heap.size ≤ W1.heap.size := ⟨by have := blk_lt GR.out; omega, B1.out.size⟩
        clear hS hal
        have hS := hHeld
        clear hHeld
        generalize W1.drew.alloc (.cells Z 52) = WA at *
        generalize W1.heap.size = g5 at *
        refine wpAnyH_ready (rs := [7]) (by kernel_rfl) (by simp) ?_
        refine' AllReadyH.cons ?hoc7ay4yy12y (fun K hK => ?stc7ay4yy12y) AllReadyH.nil
        case hoc7ay4yy12y => (simp only [List.getElem?_toArray, List.getElem?_cons_succ, List.getElem?_cons_zero]; rfl)
        go_simp
        refine (N2.out _ hS.1).mono ?_
        rintro e wq ⟨rfl, rfl⟩
        go_wp2_with fail
        refine hK.out _ _ hS (fun hHeld => ?_)
        clear hK K hHeld
        try simp only [Act.put, List.setIfInBounds_toArray, List.set_cons_succ, List.set_cons_zero]
        refine wpAnyH_ready (rs := [11]) (by kernel_rfl) (by simp) ?_
        refine' AllReadyH.cons ?hoc11ay4yy12y (fun K hK => ?stc11ay4yy12y) AllReadyH.nil
        case hoc11ay4yy12y => (simp only [List.getElem?_toArray, List.getElem?_cons_succ, List.getElem?_cons_zero]; rfl)
        refine step_build_run rfl 52 #[(0, .tmp 11), (1, .tmp 14), (2, .tmp 17), (3, .tmp 20)] rfl #[(0, .slice (some ⟨b, o, none⟩) 32 cap), (1, .int .u64 hg), (2, .int .u64 he), (3, .int .u8 hk)] (by kernel_rfl) (BC.out _) ?_
        refine hK.out _ _ hS (fun hHeld => ?_)
        clear hK K hHeld
        try simp only [Act.put, List.setIfInBounds_toArray, List.set_cons_succ, List.set_cons_zero]
        refine wpAnyH_ready (rs := [13]) (by kernel_rfl) (by simp) ?_
        refine' AllReadyH.cons ?hoc13ay4yy12y (fun K hK => ?stc13ay4yy12y) AllReadyH.nil
        case hoc13ay4yy12y => (simp only [List.getElem?_toArray, List.getElem?_cons_succ, List.getElem?_cons_zero]; rfl)
        refine step_store_row rfl 52 (.tmp 4) (.tmp 21) rfl g5 DC rfl rfl 52 Z G5.out IC.out ZC.out OC.out ?_
        refine hK.out _ _ ⟨hS.1.trans (below_row _ _ GN.2), (setRow_other _ _ _ _ GN.1).trans hS.2⟩ (fun hHeld => ?_)
        clear hK K
        simp only [Act.put]
        clear hS
        have hS := hHeld
        clear hHeld
        have GS : Hid ((WA.setRow g5 DC).heap[g5]? = some (.cells DC 52 (0, 0))) := setRow_heap _ _ _ _ _ _ G5.out
        have GRR := Lib.hid hS.2
        have BB := Lib.hid hS.1
        clear hS
        refine wpAnyH_done (by kernel_rfl) ?_ _
        generalize WA.setRow g5 DC = W5 at *
        go_wp2_with (refine wpList_load_row rfl 52 (.tmp 4) rfl g5 rfl 52 DC (0, 0) _ GS.out Try.underlying52 rfl IC.out ?_)
        refine (WH.out _ (S0.out.below BB.out)).mono ?_
        rintro e W6 ⟨u, he', hu, hb⟩
        have B6 := Lib.hid (BB.out.trans (hb.mono BB.out.size))
        have GR6 := Lib.hid ((hb.block _ (blk_lt GRR.out)).trans GRR.out)
        have GS6 := Lib.hid ((hb.block _ (blk_lt GS.out)).trans GS.out)
        obtain ⟨ux, uc, rfl, _⟩ := hu.form
        have sb := (SB.out.below B6.out).str
        by_cases hm : hk ≤ 1
        · obtain ⟨e0, e1⟩ := EY.out hm
          rw [e0] at he'
          rw [e1] at hu he'
          subst he'
          have su := hu.str
          have se := SE.out BW.out
          by_cases hq : gW (gR xs) = xs
          · rw [decide_eq_true hq] at se
            have Y3 := Lib.hid (YES.out hm hq)
            generalize gW (gR xs) = WW at *
            clear hu hb YES NO EY EN SE hm hq e0 e1 WH BW
            go_wp2_with (first
              | (refine wpList_load_row rfl 52 (.tmp 4) rfl g5 rfl 52 DC (0, 0) _ GS6.out Try.underlying52 rfl IC.out ?_)
              | (refine wpList_store_row rfl 52 (.tmp 2) (.tmp 37) rfl w.heap.size DC rfl rfl 52 Z GR6.out IC.out ZC.out OC.out ?_))
            exact bodyPost_ret (v := .tuple #[.agg DC, .int .i64 0]) (results_cell_tmp Try.results22 _ _ w.heap.size 52 DC (0, 0) _ rfl (setRow_heap _ _ _ _ _ _ GR6.out) Try.underlying52 rfl IC.out) rfl (Y3.out _ (B6.out.trans (below_row _ _ (Nat.le_refl _))))
          · rw [decide_eq_false hq] at se
            have N3' := Lib.hid (NO.out (fun h => hq h.2))
            generalize gW (gR xs) = WW at *
            clear hu hb YES NO EY EN SE hm hq e0 e1 WH BW
            go_wp2_with (first
              | (refine wpList_store_row rfl 52 (.tmp 2) (.tmp 36) rfl w.heap.size Z rfl rfl 52 Z GR6.out IZ.out rfl OZ.out ?_)
              | (refine wpList_blank_met rfl 52 rfl (BY.out _) ?_))
            exact bodyPost_ret (v := .tuple #[.agg Z, .int .i64 3]) (results_cell_tmp Try.results22 _ _ w.heap.size 52 Z (0, 0) _ rfl (setRow_heap _ _ _ _ _ _ GR6.out) Try.underlying52 rfl IZ.out) rfl (N3'.out _ (B6.out.trans (below_row _ _ (Nat.le_refl _))))
        · rw [EN.out (by omega)] at he'
          subst he'
          have N3' := Lib.hid (NO.out (fun h => hm h.1))
          clear hu hb YES NO EY EN SE hm WH BW
          go_wp2_with (first
            | (refine wpList_store_row rfl 52 (.tmp 2) (.tmp 36) rfl w.heap.size Z rfl rfl 52 Z GR6.out IZ.out rfl OZ.out ?_)
            | (refine wpList_blank_met rfl 52 rfl (BY.out _) ?_))
          exact bodyPost_ret (v := .tuple #[.agg Z, .int .i64 3]) (results_cell_tmp Try.results22 _ _ w.heap.size 52 Z (0, 0) _ rfl (setRow_heap _ _ _ _ _ _ GR6.out) Try.underlying52 rfl IZ.out) rfl (N3'.out _ (B6.out.trans (below_row _ _ (Nat.le_refl _))))
    case stc12a =>
      refine step_alloc_run rfl 52 rfl (hz52 _) ?_
      have hal : Below W1.drew.heap.size W1.drew (W1.drew.alloc (.cells Z 52)) := (Below.refl _ _).alloc (Nat.le_refl _) _
      refine hK.out _ _ ⟨hS.1.trans (hal.mono B1.out.size), (hal.block _ (blk_lt GR.out)).trans hS.2⟩ (fun hHeld => ?_)
      clear hK K
      have G5 : Hid ((W1.drew.alloc (.cells Z 52)).heap[W1.heap.size]? = some (.cells Z 52 (0, 0))) := heap_alloc_new W1.drew _
      try simp only [Act.put, List.setIfInBounds_toArray, List.set_cons_succ, List.set_cons_zero]
      rw [show W1.drew.heap.size = W1.heap.size from rfl]
      have GN : w.heap.size ≠ W1.heap.size ∧ w.heap.size ≤ W1.heap.size := ⟨by have := blk_lt GR.out; omega, B1.out.size⟩
      clear hS hal
      have hS := hHeld
      clear hHeld
      generalize W1.drew.alloc (.cells Z 52) = WA at *
      generalize W1.heap.size = g5 at *
      refine wpAnyH_ready (rs := [4]) (by kernel_rfl) (by simp) ?_
      refine' AllReadyH.cons ?hoc4ay12y (fun K hK => ?stc4ay12y) AllReadyH.nil
      case hoc4ay12y => (simp only [List.getElem?_toArray, List.getElem?_cons_succ, List.getElem?_cons_zero]; rfl)
      go_simp
      refine (N1.out _ hS.1).mono ?_
      rintro e wq ⟨rfl, rfl⟩
      go_wp2_with fail
      refine hK.out _ _ hS (fun hHeld => ?_)
      clear hK K hHeld
      try simp only [Act.put, List.setIfInBounds_toArray, List.set_cons_succ, List.set_cons_zero]
      refine wpAnyH_ready (rs := [7]) (by kernel_rfl) (by simp) ?_
      refine' AllReadyH.cons ?hoc7ay12y (fun K hK => ?stc7ay12y) AllReadyH.nil
      case hoc7ay12y => (simp only [List.getElem?_toArray, List.getElem?_cons_succ, List.getElem?_cons_zero]; rfl)
      go_simp
      refine (N2.out _ hS.1).mono ?_
      rintro e wq ⟨rfl, rfl⟩
      go_wp2_with fail
      refine hK.out _ _ hS (fun hHeld => ?_)
      clear hK K hHeld
      try simp only [Act.put, List.setIfInBounds_toArray, List.set_cons_succ, List.set_cons_zero]
      refine wpAnyH_ready (rs := [11]) (by kernel_rfl) (by simp) ?_
      refine' AllReadyH.cons ?hoc11ay12y (fun K hK => ?stc11ay12y) AllReadyH.nil
      case hoc11ay12y => (simp only [List.getElem?_toArray, List.getElem?_cons_succ, List.getElem?_cons_zero]; rfl)
      refine step_build_run rfl 52 #[(0, .tmp 11), (1, .tmp 14), (2, .tmp 17), (3, .tmp 20)] rfl #[(0, .slice (some ⟨b, o, none⟩) 32 cap), (1, .int .u64 hg), (2, .int .u64 he), (3, .int .u8 hk)] (by kernel_rfl) (BC.out _) ?_
      refine hK.out _ _ hS (fun hHeld => ?_)
      clear hK K hHeld
      try simp only [Act.put, List.setIfInBounds_toArray, List.set_cons_succ, List.set_cons_zero]
      refine wpAnyH_ready (rs := [13]) (by kernel_rfl) (by simp) ?_
      refine' AllReadyH.cons ?hoc13ay12y (fun K hK => ?stc13ay12y) AllReadyH.nil
      case hoc13ay12y => (simp only [List.getElem?_toArray, List.getElem?_cons_succ, List.getElem?_cons_zero]; rfl)
      refine step_store_row rfl 52 (.tmp 4) (.tmp 21) rfl g5 DC rfl rfl 52 Z G5.out IC.out ZC.out OC.out ?_
      refine hK.out _ _ ⟨hS.1.trans (below_row _ _ GN.2), (setRow_other _ _ _ _ GN.1).trans hS.2⟩ (fun hHeld => ?_)
      clear hK K
      simp only [Act.put]
      clear hS
      have hS := hHeld
      clear hHeld
      have GS : Hid ((WA.setRow g5 DC).heap[g5]? = some (.cells DC 52 (0, 0))) := setRow_heap _ _ _ _ _ _ G5.out
      have GRR := Lib.hid hS.2
      have BB := Lib.hid hS.1
      clear hS
      refine wpAnyH_done (by kernel_rfl) ?_ _
      generalize WA.setRow g5 DC = W5 at *
      go_wp2_with (refine wpList_load_row rfl 52 (.tmp 4) rfl g5 rfl 52 DC (0, 0) _ GS.out Try.underlying52 rfl IC.out ?_)
      refine (WH.out _ (S0.out.below BB.out)).mono ?_
      rintro e W6 ⟨u, he', hu, hb⟩
      have B6 := Lib.hid (BB.out.trans (hb.mono BB.out.size))
      have GR6 := Lib.hid ((hb.block _ (blk_lt GRR.out)).trans GRR.out)
      have GS6 := Lib.hid ((hb.block _ (blk_lt GS.out)).trans GS.out)
      obtain ⟨ux, uc, rfl, _⟩ := hu.form
      have sb := (SB.out.below B6.out).str
      by_cases hm : hk ≤ 1
      · obtain ⟨e0, e1⟩ := EY.out hm
        rw [e0] at he'
        rw [e1] at hu he'
        subst he'
        have su := hu.str
        have se := SE.out BW.out
        by_cases hq : gW (gR xs) = xs
        · rw [decide_eq_true hq] at se
          have Y3 := Lib.hid (YES.out hm hq)
          generalize gW (gR xs) = WW at *
          clear hu hb YES NO EY EN SE hm hq e0 e1 WH BW
          go_wp2_with (first
            | (refine wpList_load_row rfl 52 (.tmp 4) rfl g5 rfl 52 DC (0, 0) _ GS6.out Try.underlying52 rfl IC.out ?_)
            | (refine wpList_store_row rfl 52 (.tmp 2) (.tmp 37) rfl w.heap.size DC rfl rfl 52 Z GR6.out IC.out ZC.out OC.out ?_))
          exact bodyPost_ret (v := .tuple #[.agg DC, .int .i64 0]) (results_cell_tmp Try.results22 _ _ w.heap.size 52 DC (0, 0) _ rfl (setRow_heap _ _ _ _ _ _ GR6.out) Try.underlying52 rfl IC.out) rfl (Y3.out _ (B6.out.trans (below_row _ _ (Nat.le_refl _))))
        · rw [decide_eq_false hq] at se
          have N3' := Lib.hid (NO.out (fun h => hq h.2))
          generalize gW (gR xs) = WW at *
          clear hu hb YES NO EY EN SE hm hq e0 e1 WH BW
          go_wp2_with (first
            | (refine wpList_store_row rfl 52 (.tmp 2) (.tmp 36) rfl w.heap.size Z rfl rfl 52 Z GR6.out IZ.out rfl OZ.out ?_)
            | (refine wpList_blank_met rfl 52 rfl (BY.out _) ?_))
          exact bodyPost_ret (v := .tuple #[.agg Z, .int .i64 3]) (results_cell_tmp Try.results22 _ _ w.heap.size 52 Z (0, 0) _ rfl (setRow_heap _ _ _ _ _ _ GR6.out) Try.underlying52 rfl IZ.out) rfl (N3'.out _ (B6.out.trans (below_row _ _ (Nat.le_refl _))))
      · rw [EN.out (by omega)] at he'
        subst he'
        have N3' := Lib.hid (NO.out (fun h => hm h.1))
        clear hu hb YES NO EY EN SE hm WH BW
        go_wp2_with (first
          | (refine wpList_store_row rfl 52 (.tmp 2) (.tmp 36) rfl w.heap.size Z rfl rfl 52 Z GR6.out IZ.out rfl OZ.out ?_)
          | (refine wpList_blank_met rfl 52 rfl (BY.out _) ?_))
        exact bodyPost_ret (v := .tuple #[.agg Z, .int .i64 3]) (results_cell_tmp Try.results22 _ _ w.heap.size 52 Z (0, 0) _ rfl (setRow_heap _ _ _ _ _ _ GR6.out) Try.underlying52 rfl IZ.out) rfl (N3'.out _ (B6.out.trans (below_row _ _ (Nat.le_refl _))))
end Go.Proofs.Ytplffbpnjnbolaa
