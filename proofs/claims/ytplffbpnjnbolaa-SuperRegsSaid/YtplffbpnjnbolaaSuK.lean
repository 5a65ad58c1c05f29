/-
  Contracts of the functions that the statements of package super go through: the document's head of any bytes. Condition: the slice reads as bytes.
-/
import Derived.Test.YtplffbpnjnbolaaSuJ
namespace Go.Proofs.Ytplffbpnjnbolaa
open Go.RowKit octetPuts
def hR2 (xs : List Int) : Hd := { hR xs with h := nth xs 31 == 1 }
theorem nth_pt (xs : List Int) (o n i : Nat) (hi : i < n) (h : o + n ≤ xs.length) : nth (pt xs o n) i = nth xs (o + i) := by
  have h1 : o + i < xs.length := by omega
  simp [nth, pt, List.getD, List.getElem?_take_of_lt hi, List.getElem?_drop]
theorem hR2_a {xs : List Int} (hl : xs.length = 512) (h : hW (hR2 xs) = xs) : hR2 xs = hR xs := by
  have hz : (hR2 xs).z.length = 32 := pt_len xs 36 32 (by omega)
  have p := (hW_pts (H := hR2 xs) hz).2.2.1
  rw [h] at p
  have e : (hR xs).h = (hR2 xs).h := by
    show (numI (pt xs 24 8) == 1) = _
    rw [p, num_be8 (b2i_bd _)]
    cases (hR2 xs).h <;> rfl
  unfold hR2 at e ⊢
  simp only at e
  rw [← e]
theorem hR2_b {xs : List Int} (hl : xs.length = 512) (h : hW (hR xs) = xs) : hR2 xs = hR xs := by
  have hz : (hR xs).z.length = 32 := pt_len xs 36 32 (by omega)
  have p := (hW_pts (H := hR xs) hz).2.2.1
  rw [h] at p
  have e1 := nth_pt xs 24 8 7 (by omega) (by omega)
  rw [p] at e1
  have e : (nth xs 31 == 1) = (hR xs).h := by
    rw [show (31 : Nat) = 24 + 7 from rfl, ← e1]
    cases (hR xs).h <;> decide
  unfold hR2
  rw [e]
theorem hR2_ok {xs : List Int} (h : Byt xs) (hl : xs.length = 512) : (hR2 xs).ok := hR_ok h hl
theorem hRe_iff {xs : List Int} (hl : xs.length = 512) : hRe xs = 0 ↔ (hR2 xs).may ∧ hW (hR2 xs) = xs := by
  constructor
  · intro h
    unfold hRe at h
    by_cases c : xs.length = 512 ∧ (hR xs).may ∧ hW (hR xs) = xs
    · rw [hR2_b hl c.2.2]; exact c.2
    · rw [if_neg c] at h; exact absurd h (by decide)
  · intro h
    have e := hR2_a hl h.2
    rw [e] at h
    unfold hRe
    rw [if_pos ⟨hl, h⟩]
def Dz : Array Value := dcells 0 0 false 0 (.slice none 0 0)
def RefHP (w : World) (xs : List Int) (e : Ending) (w' : World) : Prop :=
  ((hRe xs = 0 ∧ ∃ x c, e = .returned (.tuple #[.agg (dcells (hR xs).g (hR xs).e (hR xs).h (hR xs).s (.slice x 32 c)), .int .i64 0]) ∧ Sees w' (.slice x 32 c) (hR xs).z) ∨ (hRe xs = 3 ∧ e = .returned (.tuple #[.agg Dz, .int .i64 3]))) ∧ Below w.heap.size w w'
theorem hRe_03 (xs : List Int) : hRe xs = 0 ∨ hRe xs = 3 := by
  unfold hRe; split
  · exact .inl rfl
  · exact .inr rfl
set_option maxRecDepth 100000 in
set_option maxHeartbeats 4000000 in
theorem refRH_other (v : Value) (xs : List Int) (hl : xs.length ≠ 512) (w : World) (h : Sees w v xs) : Calls Try.prog 16 #[v] w (RefHP w xs) := by
  obtain ⟨x, cap, rfl, h63⟩ := h.form
  have hz : ∀ w : World, (zeroValue 37).run Try.prog w = .ok (.agg Dz) w := z37
  have hb : ∀ w : World, (Instr.build 37 #[]).run Try.prog w = .ok (.agg Dz) w := bld37
  have hne : (xs.length : Int) ≠ 512 := by omega
  have I : Hid ((Try.prog.info? 37).map (·.size) = some Dz.size) := i37 0 0 false 0 (.slice none 0 0)
  have O : Hid (Dz.all (·.oneCell') = true) := one_dcells 0 0 false 0 none 0 0
  have e3 : hRe xs = 3 := if_neg (fun h => hl h.1)
  have P : Hid (∀ W', Below w.heap.size w W' → RefHP w xs (.returned (.tuple #[.agg Dz, .int .i64 3])) W') := fun W' hb => ⟨.inr ⟨e3, rfl⟩, hb⟩
  generalize Dz = Z at *
  have G := Lib.hid (heap_alloc_new w (.cells Z 37))
  have R := Lib.hid (alloc_setRowT w Z Z 37 _ rfl)
  have BE : Hid (Below w.heap.size w (w.alloc (.cells Z 37))) := (Below.refl _ _).alloc (Nat.le_refl _) _
  clear h hl e3
  go_enter Try.func16, Try.ntmps16
  go_wp2_with (refine wpList_store_row rfl 37 (.tmp 2) (.tmp 10) rfl w.heap.size Z rfl rfl 37 Z G.out I.out rfl O.out ?_; rw [R.out])
  exact bodyPost_ret (v := .tuple #[.agg Z, .int .i64 3]) (results_cell_tmp Try.results16 _ _ w.heap.size 37 Z (0, 0) _ rfl G.out Try.underlying37 rfl I.out) rfl (P.out _ BE.out)
set_option maxRecDepth 100000 in
set_option maxHeartbeats 16000000 in
theorem refRH_full (v : Value) (xs : List Int) (hl : xs.length = 512) (w : World) (h : Sees w v xs) : Calls Try.prog 16 #[v] w (RefHP w xs) := by
  obtain ⟨hby, ⟨rfl, rfl⟩ | ⟨a, cap, rfl, rfl, _⟩ | ⟨b, o, cap, rfl, h3, h4, h5, h6⟩⟩ := id h
  · simp at hl
  · simp at hl
  unfold maxLen at h5
  have SB : Hid (Sees w (.slice (some ⟨b, o, none⟩) 512 cap) xs) := by show Sees _ _ _; rw [← hl]; exact h
  have hz37 : ∀ w : World, (zeroValue 37).run Try.prog w = .ok (.agg Dz) w := z37
  have BY : Hid (∀ w : World, (Instr.build 37 #[]).run Try.prog w = .ok (.agg Dz) w) := bld37
  have hca : 512 ≤ cap := by omega
  have SP : ∀ p n, n ≠ 0 → p + n ≤ 512 → Sees w (.slice (some ⟨b, o + p, none⟩) n (cap - p)) (pt xs p n) := fun p n hn hp => by
    have hln := pt_len xs p n (by omega)
    refine ⟨pt_byt hby _ _, .inr (.inr ⟨b, o + p, cap - p, by rw [hln], fun e => by rw [e] at hln; simp at hln; omega, by omega, by unfold maxLen; omega, fun i hi => ?_⟩)⟩
    have := part_sees w b o xs h6 p n (by omega) i hi
    have hplain : (⟨b, o + p, none⟩ : Addr).add i = ⟨b, o + p + i, none⟩ := by unfold Addr.add; split <;> simp_all
    rwa [hplain] at this
  have S1 := Lib.hid (SP 8 8 (by decide) (by decide))
  have S2 := Lib.hid (SP 16 8 (by decide) (by decide))
  have S3 := Lib.hid (SP 32 4 (by decide) (by decide))
  have S4 := Lib.hid (SP 36 32 (by decide) (by decide))
  have C31 := Lib.hid (h6 31 (by omega))
  have hok := hR2_ok hby hl
  have N1 : Hid (∀ W, Below w.heap.size w W → Calls Try.prog 44 #[.slice (some ⟨b, o + 8, none⟩) 8 (cap - 8)] W fun e w' => e = .returned (.int .u64 (hR2 xs).g) ∧ W = w') := fun W hW => number _ _ (by rw [pt_len xs 8 8 (by omega)]; decide) W (S1.out.below hW)
  have N2 : Hid (∀ W, Below w.heap.size w W → Calls Try.prog 44 #[.slice (some ⟨b, o + 16, none⟩) 8 (cap - 16)] W fun e w' => e = .returned (.int .u64 (hR2 xs).e) ∧ W = w') := fun W hW => number _ _ (by rw [pt_len xs 16 8 (by omega)]; decide) W (S2.out.below hW)
  have N3 : Hid (∀ W, Below w.heap.size w W → Calls Try.prog 44 #[.slice (some ⟨b, o + 32, none⟩) 4 (cap - 32)] W fun e w' => e = .returned (.int .u64 (hR2 xs).s) ∧ W = w') := fun W hW => number _ _ (by rw [pt_len xs 32 4 (by omega)]; decide) W (S3.out.below hW)
  have hc : (nth xs 31 == 1) = (hR2 xs).h := rfl
  have WH : Hid (∀ W, Sees W (.slice (some ⟨b, o + 36, none⟩) 32 (cap - 36)) (hR2 xs).z → Calls Try.prog 13 #[.agg (dcells (hR2 xs).g (hR2 xs).e (hR2 xs).h (hR2 xs).s (.slice (some ⟨b, o + 36, none⟩) 32 (cap - 36)))] W (WriteHP W (hR2 xs))) := fun W hs => refWH (hR2 xs) hok _ _ W hs
  have S4' : Hid (Sees w (.slice (some ⟨b, o + 36, none⟩) 32 (cap - 36)) (hR2 xs).z) := S4.out
  have BC := Lib.hid (bld37c (hR2 xs).g (hR2 xs).e (hR2 xs).h (hR2 xs).s (some ⟨b, o + 36, none⟩) 32 (cap - 36))
  have IC := Lib.hid (i37 (hR2 xs).g (hR2 xs).e (hR2 xs).h (hR2 xs).s (.slice (some ⟨b, o + 36, none⟩) 32 (cap - 36)))
  have OC := Lib.hid (one_dcells (hR2 xs).g (hR2 xs).e (hR2 xs).h (hR2 xs).s (some ⟨b, o + 36, none⟩) 32 (cap - 36))
  have ZC : Hid (Dz.size = (dcells (hR2 xs).g (hR2 xs).e (hR2 xs).h (hR2 xs).s (.slice (some ⟨b, o + 36, none⟩) 32 (cap - 36))).size) := rfl
  have IZ : Hid ((Try.prog.info? 37).map (·.size) = some Dz.size) := i37 0 0 false 0 (.slice none 0 0)
  have OZ : Hid (Dz.all (·.oneCell') = true) := one_dcells 0 0 false 0 none 0 0
  have YES : Hid ((hR2 xs).may → hW (hR2 xs) = xs → ∀ W', Below w.heap.size w W' → RefHP w xs (.returned (.tuple #[.agg (dcells (hR2 xs).g (hR2 xs).e (hR2 xs).h (hR2 xs).s (.slice (some ⟨b, o + 36, none⟩) 32 (cap - 36))), .int .i64 0])) W') := fun h1 h2 W' hb => by
    have e0 := (hRe_iff hl).2 ⟨h1, h2⟩
    rw [hR2_a hl h2]
    exact ⟨.inl ⟨e0, _, _, rfl, S4.out.below hb⟩, hb⟩
  have NO : Hid (¬ ((hR2 xs).may ∧ hW (hR2 xs) = xs) → ∀ W', Below w.heap.size w W' → RefHP w xs (.returned (.tuple #[.agg Dz, .int .i64 3])) W') := fun h1 W' hb => by
    refine ⟨.inr ⟨?_, rfl⟩, hb⟩
    rcases hRe_03 xs with e | e
    · exact absurd ((hRe_iff hl).1 e) h1
    · exact e
  have SE := Lib.hid (fun (h : Byt (hW (hR2 xs))) => str_eq (hW (hR2 xs)) xs h hby)
  have BW : Hid (Byt (hW (hR2 xs))) := hW_byt hok.2.2.2.1
  have EY : Hid ((hR2 xs).may → hE (hR2 xs) = 0 ∧ hV (hR2 xs) = hW (hR2 xs)) := fun hm => ⟨if_pos hm, if_pos hm⟩
  have EN : Hid (¬ (hR2 xs).may → hE (hR2 xs) = 3) := fun hm => if_neg hm
  have s0 := hok.2.2.1.1
  have s1 := hok.2.2.1.2
  rw [hl]
  generalize hDC : dcells (hR2 xs).g (hR2 xs).e (hR2 xs).h (hR2 xs).s (.slice (some ⟨b, o + 36, none⟩) 32 (cap - 36)) = DC at *
  generalize (hR2 xs).g = hg at *
  generalize (hR2 xs).e = he at *
  generalize (hR2 xs).h = hh at *
  generalize (hR2 xs).s = hs at *
  generalize Dz = Z at *
  obtain ⟨W1, hW1⟩ : ∃ W1, W1 = w.alloc (.cells Z 37) := ⟨_, rfl⟩
  have B1 : Hid (Below w.heap.size w W1) := by rw [hW1]; exact (Below.refl _ _).alloc (Nat.le_refl _) _
  have GR : Hid (W1.heap[w.heap.size]? = some (.cells Z 37 (0, 0))) := by rw [hW1]; exact heap_alloc_new w _
  have HW1 := Lib.hid hW1
  have h8 : ¬ (cap = 8) := by omega
  have h16 : ¬ (cap = 16) := by omega
  have h32 : ¬ (cap = 32) := by omega
  have h36 : ¬ (cap = 36) := by omega
  have K1 : Hid ((16 : Int) ≤ cap) := by show _ ≤ _; omega
  have K2 : Hid ((24 : Int) ≤ cap) := by show _ ≤ _; omega
  have K3 : Hid ((36 : Int) ≤ cap) := by show _ ≤ _; omega
  have K4 : Hid ((68 : Int) ≤ cap) := by show _ ≤ _; omega
  have HC := Lib.hid hc
  clear hW1 h hl h3 h4 h6 SP hok hDC hc
  go_enter Try.func16, Try.ntmps16
  go_wp2_with fail
  rw [← HW1.out]
  refine wp_region_held_drew (S := fun W => Below w.heap.size w W ∧ W.heap[w.heap.size]? = some (.cells Z 37 (0, 0))) (by kernel_rfl) (⟨B1.out.drew, GR.out⟩) (fun hS => ?_)
  refine' wpAnyH_take (i := 0) ?h1x0a ?hsx0a ?hfx0a ?hrx0a ?hQx0a (Or.inl ⟨?hwx0a, ?hyx0a⟩) hS ?restx0a
  case h1x0a => (simp only [List.getElem?_toArray, List.getElem?_cons_zero]; rfl)
  case hsx0a => kernel_rfl
  case hfx0a => kernel_rfl
  case hrx0a => kernel_rfl
  case hQx0a => exact fun _ _ _ h => h
  case hwx0a => rfl
  case hyx0a =>
    intro W hW
    go_simp
    try with_reducible rfl
  simp only [Act.put, List.setIfInBounds_toArray, List.set_cons_succ, List.set_cons_zero]
  refine' wpAnyH_take (i := 1) ?h1x1a ?hsx1a ?hfx1a ?hrx1a ?hQx1a (Or.inl ⟨?hwx1a, ?hyx1a⟩) hS ?restx1a
  case h1x1a => (simp only [List.getElem?_toArray, List.getElem?_cons_succ, List.getElem?_cons_zero]; rfl)
  case hsx1a => kernel_rfl
  case hfx1a => kernel_rfl
  case hrx1a => kernel_rfl
  case hQx1a => exact fun _ _ _ h => h
  case hwx1a => rfl
  case hyx1a =>
    intro W hW
    have dd := K1.out
    go_simp
    try with_reducible rfl
  simp only [Act.put, List.setIfInBounds_toArray, List.set_cons_succ, List.set_cons_zero]
  refine' wpAnyH_take (i := 3) ?h1x3a ?hsx3a ?hfx3a ?hrx3a ?hQx3a (Or.inl ⟨?hwx3a, ?hyx3a⟩) hS ?restx3a
  case h1x3a => (simp only [List.getElem?_toArray, List.getElem?_cons_succ, List.getElem?_cons_zero]; rfl)
  case hsx3a => kernel_rfl
  case hfx3a => kernel_rfl
  case hrx3a => kernel_rfl
  case hQx3a => exact fun _ _ _ h => h
  case hwx3a => rfl
  case hyx3a =>
    intro W hW
    go_simp
    try with_reducible rfl
  simp only [Act.put, List.setIfInBounds_toArray, List.set_cons_succ, List.set_cons_zero]
  refine' wpAnyH_take (i := 4) ?h1x4a ?hsx4a ?hfx4a ?hrx4a ?hQx4a (Or.inl ⟨?hwx4a, ?hyx4a⟩) hS ?restx4a
  case h1x4a => (simp only [List.getElem?_toArray, List.getElem?_cons_succ, List.getElem?_cons_zero]; rfl)
  case hsx4a => kernel_rfl
  case hfx4a => kernel_rfl
  case hrx4a => kernel_rfl
  case hQx4a => exact fun _ _ _ h => h
  case hwx4a => rfl
  case hyx4a =>
    intro W hW
    have dd := K2.out
    go_simp
    try with_reducible rfl
  simp only [Act.put, List.setIfInBounds_toArray, List.set_cons_succ, List.set_cons_zero]
  refine' wpAnyH_take (i := 6) ?h1x6a ?hsx6a ?hfx6a ?hrx6a ?hQx6a (Or.inl ⟨?hwx6a, ?hyx6a⟩) hS ?restx6a
  case h1x6a => (simp only [List.getElem?_toArray, List.getElem?_cons_succ, List.getElem?_cons_zero]; rfl)
  case hsx6a => kernel_rfl
  case hfx6a => kernel_rfl
  case hrx6a => kernel_rfl
  case hQx6a => exact fun _ _ _ h => h
  case hwx6a => rfl
  case hyx6a =>
    intro W hW
    go_simp
    try with_reducible rfl
  simp only [Act.put, List.setIfInBounds_toArray, List.set_cons_succ, List.set_cons_zero]
  refine' wpAnyH_take (i := 7) ?h1x7a ?hsx7a ?hfx7a ?hrx7a ?hQx7a (Or.inl ⟨?hwx7a, ?hyx7a⟩) hS ?restx7a
  case h1x7a => (simp only [List.getElem?_toArray, List.getElem?_cons_succ, List.getElem?_cons_zero]; rfl)
  case hsx7a => kernel_rfl
  case hfx7a => kernel_rfl
  case hrx7a => kernel_rfl
  case hQx7a => exact fun _ _ _ h => h
  case hwx7a => rfl
  case hyx7a =>
    intro W hW
    go_simp
    try with_reducible rfl
  simp only [Act.put, List.setIfInBounds_toArray, List.set_cons_succ, List.set_cons_zero]
  refine' wpAnyH_take (i := 8) ?h1x8a ?hsx8a ?hfx8a ?hrx8a ?hQx8a (Or.inl ⟨?hwx8a, ?hyx8a⟩) hS ?restx8a
  case h1x8a => (simp only [List.getElem?_toArray, List.getElem?_cons_succ, List.getElem?_cons_zero]; rfl)
  case hsx8a => kernel_rfl
  case hfx8a => kernel_rfl
  case hrx8a => kernel_rfl
  case hQx8a => exact fun _ _ _ h => h
  case hwx8a => rfl
  case hyx8a =>
    intro W hW
    have dd : W.cell? ⟨b, o + 31, none⟩ = some (.int .u8 (nth xs 31)) := (hW.1.cell (World.block_lt_of_cell? w _ C31.out)).trans C31.out
    go_simp
    try with_reducible rfl
  simp only [Act.put, List.setIfInBounds_toArray, List.set_cons_succ, List.set_cons_zero]
  refine' wpAnyH_take (i := 9) ?h1x9a ?hsx9a ?hfx9a ?hrx9a ?hQx9a (Or.inl ⟨?hwx9a, ?hyx9a⟩) hS ?restx9a
  case h1x9a => (simp only [List.getElem?_toArray, List.getElem?_cons_succ, List.getElem?_cons_zero]; rfl)
  case hsx9a => kernel_rfl
  case hfx9a => kernel_rfl
  case hrx9a => kernel_rfl
  case hQx9a => exact fun _ _ _ h => h
  case hwx9a => rfl
  case hyx9a =>
    intro W hW
    have dd := HC.out
    go_simp
    try with_reducible rfl
  simp only [Act.put, List.setIfInBounds_toArray, List.set_cons_succ, List.set_cons_zero]
  refine' wpAnyH_take (i := 10) ?h1x10a ?hsx10a ?hfx10a ?hrx10a ?hQx10a (Or.inl ⟨?hwx10a, ?hyx10a⟩) hS ?restx10a
  case h1x10a => (simp only [List.getElem?_toArray, List.getElem?_cons_succ, List.getElem?_cons_zero]; rfl)
  case hsx10a => kernel_rfl
  case hfx10a => kernel_rfl
  case hrx10a => kernel_rfl
  case hQx10a => exact fun _ _ _ h => h
  case hwx10a => rfl
  case hyx10a =>
    intro W hW
    go_simp
    try with_reducible rfl
  simp only [Act.put, List.setIfInBounds_toArray, List.set_cons_succ, List.set_cons_zero]
  refine' wpAnyH_take (i := 11) ?h1x11a ?hsx11a ?hfx11a ?hrx11a ?hQx11a (Or.inl ⟨?hwx11a, ?hyx11a⟩) hS ?restx11a
  case h1x11a => (simp only [List.getElem?_toArray, List.getElem?_cons_succ, List.getElem?_cons_zero]; rfl)
  case hsx11a => kernel_rfl
  case hfx11a => kernel_rfl
  case hrx11a => kernel_rfl
  case hQx11a => exact fun _ _ _ h => h
  case hwx11a => rfl
  case hyx11a =>
    intro W hW
    have dd := K3.out
    go_simp
    try with_reducible rfl
  simp only [Act.put, List.setIfInBounds_toArray, List.set_cons_succ, List.set_cons_zero]
  refine' wpAnyH_take (i := 14) ?h1x14a ?hsx14a ?hfx14a ?hrx14a ?hQx14a (Or.inl ⟨?hwx14a, ?hyx14a⟩) hS ?restx14a
  case h1x14a => (simp only [List.getElem?_toArray, List.getElem?_cons_succ, List.getElem?_cons_zero]; rfl)
  case hsx14a => kernel_rfl
  case hfx14a => kernel_rfl
  case hrx14a => kernel_rfl
  case hQx14a => exact fun _ _ _ h => h
  case hwx14a => rfl
  case hyx14a =>
    intro W hW
    go_simp
    try with_reducible rfl
  simp only [Act.put, List.setIfInBounds_toArray, List.set_cons_succ, List.set_cons_zero]
  refine' wpAnyH_take (i := 15) ?h1x15a ?hsx15a ?hfx15a ?hrx15a ?hQx15a (Or.inl ⟨?hwx15a, ?hyx15a⟩) hS ?restx15a
  case h1x15a => (simp only [List.getElem?_toArray, List.getElem?_cons_succ, List.getElem?_cons_zero]; rfl)
  case hsx15a => kernel_rfl
  case hfx15a => kernel_rfl
  case hrx15a => kernel_rfl
  case hQx15a => exact fun _ _ _ h => h
  case hwx15a => rfl
  case hyx15a =>
    intro W hW
    have dd := K4.out
    go_simp
    try with_reducible rfl
  simp only [Act.put, List.setIfInBounds_toArray, List.set_cons_succ, List.set_cons_zero]
  refine wpAnyH_ready (rs := [2, 17]) (by kernel_rfl) (by simp) ?_
  refine' (AllReadyH.cons ?hoc2a (fun K hK => ?stc2a) (AllReadyH.cons ?hoc17a (fun K hK => ?stc17a) AllReadyH.nil))
  case hoc2a => (simp only [List.getElem?_toArray, List.getElem?_cons_succ, List.getElem?_cons_zero]; rfl)
  case hoc17a => (simp only [List.getElem?_toArray, List.getElem?_cons_succ, List.getElem?_cons_zero]; rfl)
  case stc2a =>
    go_simp
    refine (N1.out _ hS.1).mono ?_
    rintro e wq ⟨rfl, rfl⟩
    go_wp2_with fail
    refine hK.out _ _ hS (fun hHeld => ?_)
    clear hK K hHeld
    try simp only [Act.put, List.setIfInBounds_toArray, List.set_cons_succ, List.set_cons_zero]
    refine wpAnyH_ready (rs := [5, 17]) (by kernel_rfl) (by simp) ?_
    refine' (AllReadyH.cons ?hoc5ay2y (fun K hK => ?stc5ay2y) (AllReadyH.cons ?hoc17ay2y (fun K hK => ?stc17ay2y) AllReadyH.nil))
    case hoc5ay2y => (simp only [List.getElem?_toArray, List.getElem?_cons_succ, List.getElem?_cons_zero]; rfl)
    case hoc17ay2y => (simp only [List.getElem?_toArray, List.getElem?_cons_succ, List.getElem?_cons_zero]; rfl)
    case stc5ay2y =>
      go_simp
      refine (N2.out _ hS.1).mono ?_
      rintro e wq ⟨rfl, rfl⟩
      go_wp2_with fail
      refine hK.out _ _ hS (fun hHeld => ?_)
      clear hK K hHeld
      try simp only [Act.put, List.setIfInBounds_toArray, List.set_cons_succ, List.set_cons_zero]
      refine wpAnyH_ready (rs := [12, 17]) (by kernel_rfl) (by simp) ?_
      refine' (AllReadyH.cons ?hoc12ay2yy5y (fun K hK => ?stc12ay2yy5y) (AllReadyH.cons ?hoc17ay2yy5y (fun K hK => ?stc17ay2yy5y) AllReadyH.nil))
      case hoc12ay2yy5y => (simp only [List.getElem?_toArray, List.getElem?_cons_succ, List.getElem?_cons_zero]; rfl)
      case hoc17ay2yy5y => (simp only [List.getElem?_toArray, List.getElem?_cons_succ, List.getElem?_cons_zero]; rfl)
      case stc12ay2yy5y =>
        go_simp
        refine (N3.out _ hS.1).mono ?_
        rintro e wq ⟨rfl, rfl⟩
        go_wp2_with fail
        refine hK.out _ _ hS (fun hHeld => ?_)
        clear hK K hHeld
        try simp only [Act.put, List.setIfInBounds_toArray, List.set_cons_succ, List.set_cons_zero]
        refine' wpAnyH_take (i := 13) ?h1x13ay2yy5yy12y ?hsx13ay2yy5yy12y ?hfx13ay2yy5yy12y ?hrx13ay2yy5yy12y ?hQx13ay2yy5yy12y (Or.inl ⟨?hwx13ay2yy5yy12y, ?hyx13ay2yy5yy12y⟩) hS ?restx13ay2yy5yy12y
        case h1x13ay2yy5yy12y => (simp only [List.getElem?_toArray, List.getElem?_cons_succ, List.getElem?_cons_zero]; rfl)
        case hsx13ay2yy5yy12y => kernel_rfl
        case hfx13ay2yy5yy12y => kernel_rfl
        case hrx13ay2yy5yy12y => kernel_rfl
        case hQx13ay2yy5yy12y => exact fun _ _ _ h => h
        case hwx13ay2yy5yy12y => rfl
        case hyx13ay2yy5yy12y =>
          intro W hW
          have dd : IntKind.u32.wrap hs = hs := by rw [IntKind.wrap_u32]; omega
          go_simp
          try with_reducible rfl
        simp only [Act.put, List.setIfInBounds_toArray, List.set_cons_succ, List.set_cons_zero]
        refine wpAnyH_ready (rs := [16, 17]) (by kernel_rfl) (by simp) ?_
        refine' (AllReadyH.cons ?hoc16ay2yy5yy12y (fun K hK => ?stc16ay2yy5yy12y) (AllReadyH.cons ?hoc17ay2yy5yy12y (fun K hK => ?stc17ay2yy5yy12y) AllReadyH.nil))
        case hoc16ay2yy5yy12y => (simp only [List.getElem?_toArray, List.getElem?_cons_succ, List.getElem?_cons_zero]; rfl)
        case hoc17ay2yy5yy12y => (simp only [List.getElem?_toArray, List.getElem?_cons_succ, List.getElem?_cons_zero]; rfl)
        case stc16ay2yy5yy12y =>
          refine step_build_run rfl 37 #[(0, .tmp 13), (1, .tmp 16), (2, .tmp 20), (3, .tmp 24), (4, .tmp 26)] rfl #[(0, .int .u64 hg), (1, .int .u64 he), (2, .bool hh), (3, .int .u32 hs), (4, .slice (some ⟨b, o + 36, none⟩) 32 (cap - 36))] (by kernel_rfl) (BC.out _) ?_
          refine hK.out _ _ hS (fun hHeld => ?_)
          clear hK K hHeld
          try simp only [Act.put, List.setIfInBounds_toArray, List.set_cons_succ, List.set_cons_zero]
          refine wpAnyH_ready (rs := [17]) (by kernel_rfl) (by simp) ?_
          refine' AllReadyH.cons ?hoc17ay2yy5yy12yy16y (fun K hK => ?stc17ay2yy5yy12yy16y) AllReadyH.nil
          case hoc17ay2yy5yy12yy16y => (simp only [List.getElem?_toArray, List.getElem?_cons_succ, List.getElem?_cons_zero]; rfl)
          refine step_alloc_run rfl 37 rfl (hz37 _) ?_
          have hal : Below W1.drew.heap.size W1.drew (W1.drew.alloc (.cells Z 37)) := (Below.refl _ _).alloc (Nat.le_refl _) _
          refine hK.out _ _ ⟨hS.1.trans (hal.mono B1.out.size), (hal.block _ (blk_lt GR.out)).trans hS.2⟩ (fun hHeld => ?_)
          clear hK K
          have G5 : Hid ((W1.drew.alloc (.cells Z 37)).heap[W1.heap.size]? = some (.cells Z 37 (0, 0))) := heap_alloc_new W1.drew _
          try simp only [Act.put, List.setIfInBounds_toArray, List.set_cons_succ, List.set_cons_zero]
          rw [show W1.drew.heap.size = W1.heap.size from rfl]
          have GN : w.heap.size ≠ W1.heap.size ∧ w.heap.size ≤ W1.heap.size := ⟨by have := blk_lt GR.out; omega, B1.out.size⟩
          clear hS hal
          have hS := hHeld
          clear hHeld
          generalize W1.drew.alloc (.cells Z 37) = WA at *
          generalize W1.heap.size = g5 at *
          refine wpAnyH_ready (rs := [18]) (by kernel_rfl) (by simp) ?_
          refine' AllReadyH.cons ?hoc18ay2yy5yy12yy16y (fun K hK => ?stc18ay2yy5yy12yy16y) AllReadyH.nil
          case hoc18ay2yy5yy12yy16y => (simp only [List.getElem?_toArray, List.getElem?_cons_succ, List.getElem?_cons_zero]; rfl)
          refine step_store_row rfl 37 (.tmp 4) (.tmp 27) rfl g5 DC rfl rfl 37 Z G5.out IC.out ZC.out OC.out ?_
          refine hK.out _ _ ⟨hS.1.trans (below_row _ _ GN.2), (setRow_other _ _ _ _ GN.1).trans hS.2⟩ (fun hHeld => ?_)
          clear hK K
          simp only [Act.put]
          clear hS
          have hS := hHeld
          clear hHeld
          have GS : Hid ((WA.setRow g5 DC).heap[g5]? = some (.cells DC 37 (0, 0))) := setRow_heap _ _ _ _ _ _ G5.out
          have GRR := Lib.hid hS.2
          have BB := Lib.hid hS.1
          clear hS
          refine wpAnyH_done (by kernel_rfl) ?_ _
          generalize WA.setRow g5 DC = W5 at *
          go_wp2_with (refine wpList_load_row rfl 37 (.tmp 4) rfl g5 rfl 37 DC (0, 0) _ GS.out Try.underlying37 rfl IC.out ?_)
          refine (WH.out _ (S4'.out.below BB.out)).mono ?_
          rintro e W6 ⟨u, he', hu, hb⟩
          have B6 := Lib.hid (BB.out.trans (hb.mono BB.out.size))
          have GR6 := Lib.hid ((hb.block _ (blk_lt GRR.out)).trans GRR.out)
          have GS6 := Lib.hid ((hb.block _ (blk_lt GS.out)).trans GS.out)
          obtain ⟨ux, uc, rfl, _⟩ := hu.form
          have sb := (SB.out.below B6.out).str
          by_cases hm : (hR2 xs).may
          · obtain ⟨e0, e1⟩ := EY.out hm
            rw [e0] at he'
            rw [e1] at hu he'
            subst he'
            have su := hu.str
            have se := SE.out BW.out
            by_cases hq : hW (hR2 xs) = xs
            · rw [decide_eq_true hq] at se
              have Y3 := Lib.hid (YES.out hm hq)
              generalize hW (hR2 xs) = WW at *
              clear hu hb YES NO EY EN SE hm hq e0 e1 WH BW
              go_wp2_with (first
                | (refine wpList_load_row rfl 37 (.tmp 4) rfl g5 rfl 37 DC (0, 0) _ GS6.out Try.underlying37 rfl IC.out ?_)
                | (refine wpList_store_row rfl 37 (.tmp 2) (.tmp 43) rfl w.heap.size DC rfl rfl 37 Z GR6.out IC.out ZC.out OC.out ?_))
              exact bodyPost_ret (v := .tuple #[.agg DC, .int .i64 0]) (results_cell_tmp Try.results16 _ _ w.heap.size 37 DC (0, 0) _ rfl (setRow_heap _ _ _ _ _ _ GR6.out) Try.underlying37 rfl IC.out) rfl (Y3.out _ (B6.out.trans (below_row _ _ (Nat.le_refl _))))
            · rw [decide_eq_false hq] at se
              have N3' := Lib.hid (NO.out (fun h => hq h.2))
              generalize hW (hR2 xs) = WW at *
              clear hu hb YES NO EY EN SE hm hq e0 e1 WH BW
              go_wp2_with (first
                | (refine wpList_store_row rfl 37 (.tmp 2) (.tmp 42) rfl w.heap.size Z rfl rfl 37 Z GR6.out IZ.out rfl OZ.out ?_)
                | (refine wpList_blank_met rfl 37 rfl (BY.out _) ?_))
              exact bodyPost_ret (v := .tuple #[.agg Z, .int .i64 3]) (results_cell_tmp Try.results16 _ _ w.heap.size 37 Z (0, 0) _ rfl (setRow_heap _ _ _ _ _ _ GR6.out) Try.underlying37 rfl IZ.out) rfl (N3'.out _ (B6.out.trans (below_row _ _ (Nat.le_refl _))))
          · rw [EN.out hm] at he'
            subst he'
            have N3' := Lib.hid (NO.out (fun h => hm h.1))
            clear hu hb YES NO EY EN SE hm WH BW
            go_wp2_with (first
              | (refine wpList_store_row rfl 37 (.tmp 2) (.tmp 42) rfl w.heap.size Z rfl rfl 37 Z GR6.out IZ.out rfl OZ.out ?_)
              | (refine wpList_blank_met rfl 37 rfl (BY.out _) ?_))
            exact bodyPost_ret (v := .tuple #[.agg Z, .int .i64 3]) (results_cell_tmp Try.results16 _ _ w.heap.size 37 Z (0, 0) _ rfl (setRow_heap _ _ _ _ _ _ GR6.out) Try.underlying37 rfl IZ.out) rfl (N3'.out _ (B6.out.trans (below_row _ _ (Nat.le_refl _))))
        case stc17ay2yy5yy12y =>
          refine step_alloc_run rfl 37 rfl (hz37 _) ?_
          have hal : Below W1.drew.heap.size W1.drew (W1.drew.alloc (.cells Z 37)) := (Below.refl _ _).alloc (Nat.le_refl _) _
          refine hK.out _ _ ⟨hS.1.trans (hal.mono B1.out.size), (hal.block _ (blk_lt GR.out)).trans hS.2⟩ (fun hHeld => ?_)
          clear hK K
          have G5 : Hid ((W1.drew.alloc (.cells Z 37)).heap[W1.heap.size]? = some (.cells Z 37 (0, 0))) := heap_alloc_new W1.drew _
          try simp only [Act.put, List.setIfInBounds_toArray, List.set_cons_succ, List.set_cons_zero]
          rw [show W1.drew.heap.size = W1.heap.size from rfl]
          have GN : w.heap.size ≠ W1.heap.size ∧ w.heap.size ≤ W1.heap.size := ⟨by have := blk_lt GR.out; omega, B1.out.size⟩
          clear hS hal
          have hS := hHeld
          clear hHeld
          generalize W1.drew.alloc (.cells Z 37) = WA at *
          generalize W1.heap.size = g5 at *
          refine wpAnyH_ready (rs := [16]) (by kernel_rfl) (by simp) ?_
          refine' AllReadyH.cons ?hoc16ay2yy5yy12yy17y (fun K hK => ?stc16ay2yy5yy12yy17y) AllReadyH.nil
          case hoc16ay2yy5yy12yy17y => (simp only [List.getElem?_toArray, List.getElem?_cons_succ, List.getElem?_cons_zero]; rfl)
          refine step_build_run rfl 37 #[(0, .tmp 13), (1, .tmp 16), (2, .tmp 20), (3, .tmp 24), (4, .tmp 26)] rfl #[(0, .int .u64 hg), (1, .int .u64 he), (2, .bool hh), (3, .int .u32 hs), (4, .slice (some ⟨b, o + 36, none⟩) 32 (cap - 36))] (by kernel_rfl) (BC.out _) ?_
          refine hK.out _ _ hS (fun hHeld => ?_)
          clear hK K hHeld
          try simp only [Act.put, List.setIfInBounds_toArray, List.set_cons_succ, List.set_cons_zero]
          refine wpAnyH_ready (rs := [18]) (by kernel_rfl) (by simp) ?_
          refine' AllReadyH.cons ?hoc18ay2yy5yy12yy17y (fun K hK => ?stc18ay2yy5yy12yy17y) AllReadyH.nil
          case hoc18ay2yy5yy12yy17y => (simp only [List.getElem?_toArray, List.getElem?_cons_succ, List.getElem?_cons_zero]; rfl)
          refine step_store_row rfl 37 (.tmp 4) (.tmp 27) rfl g5 DC rfl rfl 37 Z G5.out IC.out ZC.out OC.out ?_
          refine hK.out _ _ ⟨hS.1.trans (below_row _ _ GN.2), (setRow_other _ _ _ _ GN.1).trans hS.2⟩ (fun hHeld => ?_)
          clear hK K
          simp only [Act.put]
          clear hS
          have hS := hHeld
          clear hHeld
          have GS : Hid ((WA.setRow g5 DC).heap[g5]? = some (.cells DC 37 (0, 0))) := setRow_heap _ _ _ _ _ _ G5.out
          have GRR := Lib.hid hS.2
          have BB := Lib.hid hS.1
          clear hS
          refine wpAnyH_done (by kernel_rfl) ?_ _
          generalize WA.setRow g5 DC = W5 at *
          go_wp2_with (refine wpList_load_row rfl 37 (.tmp 4) rfl g5 rfl 37 DC (0, 0) _ GS.out Try.underlying37 rfl IC.out ?_)
          refine (WH.out _ (S4'.out.below BB.out)).mono ?_
          rintro e W6 ⟨u, he', hu, hb⟩
          have B6 := Lib.hid (BB.out.trans (hb.mono BB.out.size))
          have GR6 := Lib.hid ((hb.block _ (blk_lt GRR.out)).trans GRR.out)
          have GS6 := Lib.hid ((hb.block _ (blk_lt GS.out)).trans GS.out)
          obtain ⟨ux, uc, rfl, _⟩ := hu.form
          have sb := (SB.out.below B6.out).str
          by_cases hm : (hR2 xs).may
          · obtain ⟨e0, e1⟩ := EY.out hm
            rw [e0] at he'
            rw [e1] at hu he'
            subst he'
            have su := hu.str
            have se := SE.out BW.out
            by_cases hq : hW (hR2 xs) = xs
            · rw [decide_eq_true hq] at se
              have Y3 := Lib.hid (YES.out hm hq)
              generalize hW (hR2 xs) = WW at *
              clear hu hb YES NO EY EN SE hm hq e0 e1 WH BW
              go_wp2_with (first
                | (refine wpList_load_row rfl 37 (.tmp 4) rfl g5 rfl 37 DC (0, 0) _ GS6.out Try.underlying37 rfl IC.out ?_)
                | (refine wpList_store_row rfl 37 (.tmp 2) (.tmp 43) rfl w.heap.size DC rfl rfl 37 Z GR6.out IC.out ZC.out OC.out ?_))
              exact bodyPost_ret (v := .tuple #[.agg DC, .int .i64 0]) (results_cell_tmp Try.results16 _ _ w.heap.size 37 DC (0, 0) _ rfl (setRow_heap _ _ _ _ _ _ GR6.out) Try.underlying37 rfl IC.out) rfl (Y3.out _ (B6.out.trans (below_row _ _ (Nat.le_refl _))))
            · rw [decide_eq_false hq] at se
              have N3' := Lib.hid (NO.out (fun h => hq h.2))
              generalize hW (hR2 xs) = WW at *
              clear hu hb YES NO EY EN SE hm hq e0 e1 WH BW
              go_wp2_with (first
                | (refine wpList_store_row rfl 37 (.tmp 2) (.tmp 42) rfl w.heap.size Z rfl rfl 37 Z GR6.out IZ.out rfl OZ.out ?_)
                | (refine wpList_blank_met rfl 37 rfl (BY.out _) ?_))
              exact bodyPost_ret (v := .tuple #[.agg Z, .int .i64 3]) (results_cell_tmp Try.results16 _ _ w.heap.size 37 Z (0, 0) _ rfl (setRow_heap _ _ _ _ _ _ GR6.out) Try.underlying37 rfl IZ.out) rfl (N3'.out _ (B6.out.trans (below_row _ _ (Nat.le_refl _))))
          · rw [EN.out hm] at he'
            subst he'
            have N3' := Lib.hid (NO.out (fun h => hm h.1))
            clear hu hb YES NO EY EN SE hm WH BW
            go_wp2_with (first
              | (refine wpList_store_row rfl 37 (.tmp 2) (.tmp 42) rfl w.heap.size Z rfl rfl 37 Z GR6.out IZ.out rfl OZ.out ?_)
              | (refine wpList_blank_met rfl 37 rfl (BY.out _) ?_))
            exact bodyPost_ret (v := .tuple #[.agg Z, .int .i64 3]) (results_cell_tmp Try.results16 _ _ w.heap.size 37 Z (0, 0) _ rfl (setRow_heap _ _ _ _ _ _ GR6.out) Try.underlying37 rfl IZ.out) rfl (N3'.out _ (B6.out.trans (below_row _ _ (Nat.le_refl _))))
      case stc17ay2yy5y =>
        refine step_alloc_run rfl 37 rfl (hz37 _) ?_
        have hal : Below W1.drew.heap.size W1.drew (W1.drew.alloc (.cells Z 37)) := (Below.refl _ _).alloc (Nat.le_refl _) _
        refine hK.out _ _ ⟨hS.1.trans (hal.mono B1.out.size), (hal.block _ (blk_lt GR.out)).trans hS.2⟩ (fun hHeld => ?_)
        clear hK K
        have G5 : Hid ((W1.drew.alloc (.cells Z 37)).heap[W1.heap.size]? = some (.cells Z 37 (0, 0))) := heap_alloc_new W1.drew _
        try simp only [Act.put, List.setIfInBounds_toArray, List.set_cons_succ, List.set_cons_zero]
        rw [show W1.drew.heap.size = W1.heap.size from rfl]
        have GN : w.heap.size ≠ W1.heap.size ∧ w.heap.size ≤ W1.heap.size := ⟨by have := blk_lt GR.out; omega, B1.out.size⟩
        clear hS hal
        have hS := hHeld
        clear hHeld
        generalize W1.drew.alloc (.cells Z 37) = WA at *
        generalize W1.heap.size = g5 at *
        refine wpAnyH_ready (rs := [12]) (by kernel_rfl) (by simp) ?_
        refine' AllReadyH.cons ?hoc12ay2yy5yy17y (fun K hK => ?stc12ay2yy5yy17y) AllReadyH.nil
        case hoc12ay2yy5yy17y => (simp only [List.getElem?_toArray, List.getElem?_cons_succ, List.getElem?_cons_zero]; rfl)
        go_simp
        refine (N3.out _ hS.1).mono ?_
        rintro e wq ⟨rfl, rfl⟩
        go_wp2_with fail
        refine hK.out _ _ hS (fun hHeld => ?_)
        clear hK K hHeld
        try simp only [Act.put, List.setIfInBounds_toArray, List.set_cons_succ, List.set_cons_zero]
        refine' wpAnyH_take (i := 13) ?h1x13ay2yy5yy17y ?hsx13ay2yy5yy17y ?hfx13ay2yy5yy17y ?hrx13ay2yy5yy17y ?hQx13ay2yy5yy17y (Or.inl ⟨?hwx13ay2yy5yy17y, ?hyx13ay2yy5yy17y⟩) hS ?restx13ay2yy5yy17y
        case h1x13ay2yy5yy17y => (simp only [List.getElem?_toArray, List.getElem?_cons_succ, List.getElem?_cons_zero]; rfl)
        case hsx13ay2yy5yy17y => kernel_rfl
        case hfx13ay2yy5yy17y => kernel_rfl
        case hrx13ay2yy5yy17y => kernel_rfl
        case hQx13ay2yy5yy17y => exact fun _ _ _ h => h
        case hwx13ay2yy5yy17y => rfl
        case hyx13ay2yy5yy17y =>
          intro W hW
          have dd : IntKind.u32.wrap hs = hs := by rw [IntKind.wrap_u32]; omega
          go_simp
          try with_reducible rfl
        simp only [Act.put, List.setIfInBounds_toArray, List.set_cons_succ, List.set_cons_zero]
        refine wpAnyH_ready (rs := [16]) (by kernel_rfl) (by simp) ?_
        refine' AllReadyH.cons ?hoc16ay2yy5yy17y (fun K hK => ?stc16ay2yy5yy17y) AllReadyH.nil
        case hoc16ay2yy5yy17y => (simp only [List.getElem?_toArray, List.getElem?_cons_succ, List.getElem?_cons_zero]; rfl)
        refine step_build_run rfl 37 #[(0, .tmp 13), (1, .tmp 16), (2, .tmp 20), (3, .tmp 24), (4, .tmp 26)] rfl #[(0, .int .u64 hg), (1, .int .u64 he), (2, .bool hh), (3, .int .u32 hs), (4, .slice (some ⟨b, o + 36, none⟩) 32 (cap - 36))] (by kernel_rfl) (BC.out _) ?_
        refine hK.out _ _ hS (fun hHeld => ?_)
        clear hK K hHeld
        try simp only [Act.put, List.setIfInBounds_toArray, List.set_cons_succ, List.set_cons_zero]
        refine wpAnyH_ready (rs := [18]) (by kernel_rfl) (by simp) ?_
        refine' AllReadyH.cons ?hoc18ay2yy5yy17y (fun K hK => ?stc18ay2yy5yy17y) AllReadyH.nil
        case hoc18ay2yy5yy17y => (simp only [List.getElem?_toArray, List.getElem?_cons_succ, List.getElem?_cons_zero]; rfl)
        refine step_store_row rfl 37 (.tmp 4) (.tmp 27) rfl g5 DC rfl rfl 37 Z G5.out IC.out ZC.out OC.out ?_
        refine hK.out _ _ ⟨hS.1.trans (below_row _ _ GN.2), (setRow_other _ _ _ _ GN.1).trans hS.2⟩ (fun hHeld => ?_)
        clear hK K
        simp only [Act.put]
        clear hS
        have hS := hHeld
        clear hHeld
        have GS : Hid ((WA.setRow g5 DC).heap[g5]? = some (.cells DC 37 (0, 0))) := setRow_heap _ _ _ _ _ _ G5.out
        have GRR := Lib.hid hS.2
        have BB := Lib.hid hS.1
        clear hS
        refine wpAnyH_done (by kernel_rfl) ?_ _
        generalize WA.setRow g5 DC = W5 at *
        go_wp2_with (refine wpList_load_row rfl 37 (.tmp 4) rfl g5 rfl 37 DC (0, 0) _ GS.out Try.underlying37 rfl IC.out ?_)
        refine (WH.out _ (S4'.out.below BB.out)).mono ?_
        rintro e W6 ⟨u, he', hu, hb⟩
        have B6 := Lib.hid (BB.out.trans (hb.mono BB.out.size))
        have GR6 := Lib.hid ((hb.block _ (blk_lt GRR.out)).trans GRR.out)
        have GS6 := Lib.hid ((hb.block _ (blk_lt GS.out)).trans GS.out)
        obtain ⟨ux, uc, rfl, _⟩ := hu.form
        have sb := (SB.out.below B6.out).str
        by_cases hm : (hR2 xs).may
        · obtain ⟨e0, e1⟩ := EY.out hm
          rw [e0] at he'
          rw [e1] at hu he'
          subst he'
          have su := hu.str
          have se := SE.out BW.out
          by_cases hq : hW (hR2 xs) = xs
          · rw [decide_eq_true hq] at se
            have Y3 := Lib.hid (YES.out hm hq)
            generalize hW (hR2 xs) = WW at *
            clear hu hb YES NO EY EN SE hm hq e0 e1 WH BW
            go_wp2_with (first
              | (refine wpList_load_row rfl 37 (.tmp 4) rfl g5 rfl 37 DC (0, 0) _ GS6.out Try.underlying37 rfl IC.out ?_)
              | (refine wpList_store_row rfl 37 (.tmp 2) (.tmp 43) rfl w.heap.size DC rfl rfl 37 Z GR6.out IC.out ZC.out OC.out ?_))
            exact bodyPost_ret (v := .tuple #[.agg DC, .int .i64 0]) (results_cell_tmp Try.results16 _ _ w.heap.size 37 DC (0, 0) _ rfl (setRow_heap _ _ _ _ _ _ GR6.out) Try.underlying37 rfl IC.out) rfl (Y3.out _ (B6.out.trans (below_row _ _ (Nat.le_refl _))))
          · rw [decide_eq_false hq] at se
            have N3' := Lib.hid (NO.out (fun h => hq h.2))
            generalize hW (hR2 xs) = WW at *
            clear hu hb YES NO EY EN SE hm hq e0 e1 WH BW
            go_wp2_with (first
              | (refine wpList_store_row rfl 37 (.tmp 2) (.tmp 42) rfl w.heap.size Z rfl rfl 37 Z GR6.out IZ.out rfl OZ.out ?_)
              | (refine wpList_blank_met rfl 37 rfl (BY.out _) ?_))
            exact bodyPost_ret (v := .tuple #[.agg Z, .int .i64 3]) (results_cell_tmp Try.results16 _ _ w.heap.size 37 Z (0, 0) _ rfl (setRow_heap _ _ _ _ _ _ GR6.out) Try.underlying37 rfl IZ.out) rfl (N3'.out _ (B6.out.trans (below_row _ _ (Nat.le_refl _))))
        · rw [EN.out hm] at he'
          subst he'
          have N3' := Lib.hid (NO.out (fun h => hm h.1))
          clear hu hb YES NO EY EN SE hm WH BW
          go_wp2_with (first
            | (refine wpList_store_row rfl 37 (.tmp 2) (.tmp 42) rfl w.heap.size Z rfl rfl 37 Z GR6.out IZ.out rfl OZ.out ?_)
            | (refine wpList_blank_met rfl 37 rfl (BY.out _) ?_))
          exact bodyPost_ret (v := .tuple #[.agg Z, .int .i64 3]) (results_cell_tmp Try.results16 _ _ w.heap.size 37 Z (0, 0) _ rfl (setRow_heap _ _ _ _ _ _ GR6.out) Try.underlying37 rfl IZ.out) rfl (N3'.out _ (B6.out.trans (below_row _ _ (Nat.le_refl _))))
    case stc17ay2y =>
      refine step_alloc_run rfl 37 rfl (hz37 _) ?_
      have hal : Below W1.drew.heap.size W1.drew (W1.drew.alloc (.cells Z 37)) := (Below.refl _ _).alloc (Nat.le_refl _) _
      refine hK.out _ _ ⟨hS.1.trans (hal.mono B1.out.size), (hal.block _ (blk_lt GR.out)).trans hS.2⟩ (fun hHeld => ?_)
      clear hK K
      have G5 : Hid ((W1.drew.alloc (.cells Z 37)).heap[W1.heap.size]? = some (.cells Z 37 (0, 0))) := heap_alloc_new W1.drew _
      try simp only [Act.put, List.setIfInBounds_toArray, List.set_cons_succ, List.set_cons_zero]
      rw [show W1.drew.heap.size = W1.heap.size from rfl]
      have GN : w.heap.size ≠ W1.heap.size ∧ w.heap.size ≤ W1.heap.size := ⟨by have := blk_lt GR.out; omega, B1.out.size⟩
      clear hS hal
      have hS := hHeld
      clear hHeld
      generalize W1.drew.alloc (.cells Z 37) = WA at *
      generalize W1.heap.size = g5 at *
      refine wpAnyH_ready (rs := [5]) (by kernel_rfl) (by simp) ?_
      refine' AllReadyH.cons ?hoc5ay2yy17y (fun K hK => ?stc5ay2yy17y) AllReadyH.nil
      case hoc5ay2yy17y => (simp only [List.getElem?_toArray, List.getElem?_cons_succ, List.getElem?_cons_zero]; rfl)
      go_simp
      refine (N2.out _ hS.1).mono ?_
      rintro e wq ⟨rfl, rfl⟩
      go_wp2_with fail
      refine hK.out _ _ hS (fun hHeld => ?_)
      clear hK K hHeld
      try simp only [Act.put, List.setIfInBounds_toArray, List.set_cons_succ, List.set_cons_zero]
      refine wpAnyH_ready (rs := [12]) (by kernel_rfl) (by simp) ?_
      refine' AllReadyH.cons ?hoc12ay2yy17y (fun K hK => ?stc12ay2yy17y) AllReadyH.nil
      case hoc12ay2yy17y => (simp only [List.getElem?_toArray, List.getElem?_cons_succ, List.getElem?_cons_zero]; rfl)
      go_simp
      refine (N3.out _ hS.1).mono ?_
      rintro e wq ⟨rfl, rfl⟩
      go_wp2_with fail
      refine hK.out _ _ hS (fun hHeld => ?_)
      clear hK K hHeld
      try simp only [Act.put, List.setIfInBounds_toArray, List.set_cons_succ, List.set_cons_zero]
      refine' wpAnyH_take (i := 13) ?h1x13ay2yy17y ?hsx13ay2yy17y ?hfx13ay2yy17y ?hrx13ay2yy17y ?hQx13ay2yy17y (Or.inl ⟨?hwx13ay2yy17y, ?hyx13ay2yy17y⟩) hS ?restx13ay2yy17y
      case h1x13ay2yy17y => (simp only [List.getElem?_toArray, List.getElem?_cons_succ, List.getElem?_cons_zero]; rfl)
      case hsx13ay2yy17y => kernel_rfl
      case hfx13ay2yy17y => kernel_rfl
      case hrx13ay2yy17y => kernel_rfl
      case hQx13ay2yy17y => exact fun _ _ _ h => h
      case hwx13ay2yy17y => rfl
      case hyx13ay2yy17y =>
        intro W hW
        have dd : IntKind.u32.wrap hs = hs := by rw [IntKind.wrap_u32]; omega
        go_simp
        try with_reducible rfl
      simp only [Act.put, List.setIfInBounds_toArray, List.set_cons_succ, List.set_cons_zero]
      refine wpAnyH_ready (rs := [16]) (by kernel_rfl) (by simp) ?_
      refine' AllReadyH.cons ?hoc16ay2yy17y (fun K hK => ?stc16ay2yy17y) AllReadyH.nil
      case hoc16ay2yy17y => (simp only [List.getElem?_toArray, List.getElem?_cons_succ, List.getElem?_cons_zero]; rfl)
      refine step_build_run rfl 37 #[(0, .tmp 13), (1, .tmp 16), (2, .tmp 20), (3, .tmp 24), (4, .tmp 26)] rfl #[(0, .int .u64 hg), (1, .int .u64 he), (2, .bool hh), (3, .int .u32 hs), (4, .slice (some ⟨b, o + 36, none⟩) 32 (cap - 36))] (by kernel_rfl) (BC.out _) ?_
      refine hK.out _ _ hS (fun hHeld => ?_)
      clear hK K hHeld
      try simp only [Act.put, List.setIfInBounds_toArray, List.set_cons_succ, List.set_cons_zero]
      refine wpAnyH_ready (rs := [18]) (by kernel_rfl) (by simp) ?_
      refine' AllReadyH.cons ?hoc18ay2yy17y (fun K hK => ?stc18ay2yy17y) AllReadyH.nil
      case hoc18ay2yy17y => (simp only [List.getElem?_toArray, List.getElem?_cons_succ, List.getElem?_cons_zero]; rfl)
      refine step_store_row rfl 37 (.tmp 4) (.tmp 27) rfl g5 DC rfl rfl 37 Z G5.out IC.out ZC.out OC.out ?_
      refine hK.out _ _ ⟨hS.1.trans (below_row _ _ GN.2), (setRow_other _ _ _ _ GN.1).trans hS.2⟩ (fun hHeld => ?_)
      clear hK K
      simp only [Act.put]
      clear hS
      have hS := hHeld
      clear hHeld
      have GS : Hid ((WA.setRow g5 DC).heap[g5]? = some (.cells DC 37 (0, 0))) := setRow_heap _ _ _ _ _ _ G5.out
      have GRR := Lib.hid hS.2
      have BB := Lib.hid hS.1
      clear hS
      refine wpAnyH_done (by kernel_rfl) ?_ _
      generalize WA.setRow g5 DC = W5 at *
      go_wp2_with (refine wpList_load_row rfl 37 (.tmp 4) rfl g5 rfl 37 DC (0, 0) _ GS.out Try.underlying37 rfl IC.out ?_)
      refine (WH.out _ (S4'.out.below BB.out)).mono ?_
      rintro e W6 ⟨u, he', hu, hb⟩
      have B6 := Lib.hid (BB.out.trans (hb.mono BB.out.size))
      have GR6 := Lib.hid ((hb.block _ (blk_lt GRR.out)).trans GRR.out)
      have GS6 := Lib.hid ((hb.block _ (blk_lt GS.out)).trans GS.out)
      obtain ⟨ux, uc, rfl, _⟩ := hu.form
      have sb := (SB.out.below B6.out).str
      by_cases hm : (hR2 xs).may
      · obtain ⟨e0, e1⟩ := EY.out hm
        rw [e0] at he'
        rw [e1] at hu he'
        subst he'
        have su := hu.str
        have se := SE.out BW.out
        by_cases hq : hW (hR2 xs) = xs
        · rw [decide_eq_true hq] at se
          have Y3 := Lib.hid (YES.out hm hq)
          generalize hW (hR2 xs) = WW at *
          clear hu hb YES NO EY EN SE hm hq e0 e1 WH BW
          go_wp2_with (first
            | (refine wpList_load_row rfl 37 (.tmp 4) rfl g5 rfl 37 DC (0, 0) _ GS6.out Try.underlying37 rfl IC.out ?_)
            | (refine wpList_store_row rfl 37 (.tmp 2) (.tmp 43) rfl w.heap.size DC rfl rfl 37 Z GR6.out IC.out ZC.out OC.out ?_))
          exact bodyPost_ret (v := .tuple #[.agg DC, .int .i64 0]) (results_cell_tmp Try.results16 _ _ w.heap.size 37 DC (0, 0) _ rfl (setRow_heap _ _ _ _ _ _ GR6.out) Try.underlying37 rfl IC.out) rfl (Y3.out _ (B6.out.trans (below_row _ _ (Nat.le_refl _))))
        · rw [decide_eq_false hq] at se
          have N3' := Lib.hid (NO.out (fun h => hq h.2))
          generalize hW (hR2 xs) = WW at *
          clear hu hb YES NO EY EN SE hm hq e0 e1 WH BW
          go_wp2_with (first
            | (refine wpList_store_row rfl 37 (.tmp 2) (.tmp 42) rfl w.heap.size Z rfl rfl 37 Z GR6.out IZ.out rfl OZ.out ?_)
            | (refine wpList_blank_met rfl 37 rfl (BY.out _) ?_))
          exact bodyPost_ret (v := .tuple #[.agg Z, .int .i64 3]) (results_cell_tmp Try.results16 _ _ w.heap.size 37 Z (0, 0) _ rfl (setRow_heap _ _ _ _ _ _ GR6.out) Try.underlying37 rfl IZ.out) rfl (N3'.out _ (B6.out.trans (below_row _ _ (Nat.le_refl _))))
      · rw [EN.out hm] at he'
        subst he'
        have N3' := Lib.hid (NO.out (fun h => hm h.1))
        clear hu hb YES NO EY EN SE hm WH BW
        go_wp2_with (first
          | (refine wpList_store_row rfl 37 (.tmp 2) (.tmp 42) rfl w.heap.size Z rfl rfl 37 Z GR6.out IZ.out rfl OZ.out ?_)
          | (refine wpList_blank_met rfl 37 rfl (BY.out _) ?_))
        exact bodyPost_ret (v := .tuple #[.agg Z, .int .i64 3]) (results_cell_tmp Try.results16 _ _ w.heap.size 37 Z (0, 0) _ rfl (setRow_heap _ _ _ _ _ _ GR6.out) Try.underlying37 rfl IZ.out) rfl (N3'.out _ (B6.out.trans (below_row _ _ (Nat.le_refl _))))
  case stc17a =>
    refine step_alloc_run rfl 37 rfl (hz37 _) ?_
    have hal : Below W1.drew.heap.size W1.drew (W1.drew.alloc (.cells Z 37)) := (Below.refl _ _).alloc (Nat.le_refl _) _
    refine hK.out _ _ ⟨hS.1.trans (hal.mono B1.out.size), (hal.block _ (blk_lt GR.out)).trans hS.2⟩ (fun hHeld => ?_)
    clear hK K
    have G5 : Hid ((W1.drew.alloc (.cells Z 37)).heap[W1.heap.size]? = some (.cells Z 37 (0, 0))) := heap_alloc_new W1.drew _
    try simp only [Act.put, List.setIfInBounds_toArray, List.set_cons_succ, List.set_cons_zero]
    rw [show W1.drew.heap.size = W1.heap.size from rfl]
    have GN : w.heap.size ≠ W1.heap.size ∧ w.heap.size ≤ W1.heap.size := ⟨by have := blk_lt GR.out; omega, B1.out.size⟩
    clear hS hal
    have hS := hHeld
    clear hHeld
    generalize W1.drew.alloc (.cells Z 37) = WA at *
    generalize W1.heap.size = g5 at *
    refine wpAnyH_ready (rs := [2]) (by kernel_rfl) (by simp) ?_
    refine' AllReadyH.cons ?hoc2ay17y (fun K hK => ?stc2ay17y) AllReadyH.nil
    case hoc2ay17y => (simp only [List.getElem?_toArray, List.getElem?_cons_succ, List.getElem?_cons_zero]; rfl)
    go_simp
    refine (N1.out _ hS.1).mono ?_
    rintro e wq ⟨rfl, rfl⟩
    go_wp2_with fail
    refine hK.out _ _ hS (fun hHeld => ?_)
    clear hK K hHeld
    try simp only [Act.put, List.setIfInBounds_toArray, List.set_cons_succ, List.set_cons_zero]
    refine wpAnyH_ready (rs := [5]) (by kernel_rfl) (by simp) ?_
    refine' AllReadyH.cons ?hoc5ay17y (fun K hK => ?stc5ay17y) AllReadyH.nil
    case hoc5ay17y => (simp only [List.getElem?_toArray, List.getElem?_cons_succ, List.getElem?_cons_zero]; rfl)
    go_simp
    refine (N2.out _ hS.1).mono ?_
    rintro e wq ⟨rfl, rfl⟩
    go_wp2_with fail
    refine hK.out _ _ hS (fun hHeld => ?_)
    clear hK K hHeld
    try simp only [Act.put, List.setIfInBounds_toArray, List.set_cons_succ, List.set_cons_zero]
    refine wpAnyH_ready (rs := [12]) (by kernel_rfl) (by simp) ?_
    refine' AllReadyH.cons ?hoc12ay17y (fun K hK => ?stc12ay17y) AllReadyH.nil
    case hoc12ay17y => (simp only [List.getElem?_toArray, List.getElem?_cons_succ, List.getElem?_cons_zero]; rfl)
    go_simp
    refine (N3.out _ hS.1).mono ?_
    rintro e wq ⟨rfl, rfl⟩
    go_wp2_with fail
    refine hK.out _ _ hS (fun hHeld => ?_)
    clear hK K hHeld
    try simp only [Act.put, List.setIfInBounds_toArray, List.set_cons_succ, List.set_cons_zero]
    refine' wpAnyH_take (i := 13) ?h1x13ay17y ?hsx13ay17y ?hfx13ay17y ?hrx13ay17y ?hQx13ay17y (Or.inl ⟨?hwx13ay17y, ?hyx13ay17y⟩) hS ?restx13ay17y
    case h1x13ay17y => (simp only [List.getElem?_toArray, List.getElem?_cons_succ, List.getElem?_cons_zero]; rfl)
    case hsx13ay17y => kernel_rfl
    case hfx13ay17y => kernel_rfl
    case hrx13ay17y => kernel_rfl
    case hQx13ay17y => exact fun _ _ _ h => h
    case hwx13ay17y => rfl
    case hyx13ay17y =>
      intro W hW
      have dd : IntKind.u32.wrap hs = hs := by rw [IntKind.wrap_u32]; omega
      go_simp
      try with_reducible rfl
    simp only [Act.put, List.setIfInBounds_toArray, List.set_cons_succ, List.set_cons_zero]
    refine wpAnyH_ready (rs := [16]) (by kernel_rfl) (by simp) ?_
    refine' AllReadyH.cons ?hoc16ay17y (fun K hK => ?stc16ay17y) AllReadyH.nil
    case hoc16ay17y => (simp only [List.getElem?_toArray, List.getElem?_cons_succ, List.getElem?_cons_zero]; rfl)
    refine step_build_run rfl 37 #[(0, .tmp 13), (1, .tmp 16), (2, .tmp 20), (3, .tmp 24), (4, .tmp 26)] rfl #[(0, .int .u64 hg), (1, .int .u64 he), (2, .bool hh), (3, .int .u32 hs), (4, .slice (some ⟨b, o + 36, none⟩) 32 (cap - 36))] (by kernel_rfl) (BC.out _) ?_
    refine hK.out _ _ hS (fun hHeld => ?_)
    clear hK K hHeld
    try simp only [Act.put, List.setIfInBounds_toArray, List.set_cons_succ, List.set_cons_zero]
    refine wpAnyH_ready (rs := [18]) (by kernel_rfl) (by simp) ?_
    refine' AllReadyH.cons ?hoc18ay17y (fun K hK => ?stc18ay17y) AllReadyH.nil
    case hoc18ay17y => (simp only [List.getElem?_toArray, List.getElem?_cons_succ, List.getElem?_cons_zero]; rfl)
    refine step_store_row rfl 37 (.tmp 4) (.tmp 27) rfl g5 DC rfl rfl 37 Z G5.out IC.out ZC.out OC.out ?_
    refine hK.out _ _ ⟨hS.1.trans (below_row _ _ GN.2), (setRow_other _ _ _ _ GN.1).trans hS.2⟩ (fun hHeld => ?_)
    clear hK K
    simp only [Act.put]
    clear hS
    have hS := hHeld
    clear hHeld
    have GS : Hid ((WA.setRow g5 DC).heap[g5]? = some (.cells DC 37 (0, 0))) := setRow_heap _ _ _ _ _ _ G5.out
    have GRR := Lib.hid hS.2
    have BB := Lib.hid hS.1
    clear hS
    refine wpAnyH_done (by kernel_rfl) ?_ _
    generalize WA.setRow g5 DC = W5 at *
    go_wp2_with (refine wpList_load_row rfl 37 (.tmp 4) rfl g5 rfl 37 DC (0, 0) _ GS.out Try.underlying37 rfl IC.out ?_)
    refine (WH.out _ (S4'.out.below BB.out)).mono ?_
    rintro e W6 ⟨u, he', hu, hb⟩
    have B6 := Lib.hid (BB.out.trans (hb.mono BB.out.size))
    have GR6 := Lib.hid ((hb.block _ (blk_lt GRR.out)).trans GRR.out)
    have GS6 := Lib.hid ((hb.block _ (blk_lt GS.out)).trans GS.out)
    obtain ⟨ux, uc, rfl, _⟩ := hu.form
    have sb := (SB.out.below B6.out).str
    by_cases hm : (hR2 xs).may
    · obtain ⟨e0, e1⟩ := EY.out hm
      rw [e0] at he'
      rw [e1] at hu he'
      subst he'
      have su := hu.str
      have se := SE.out BW.out
      by_cases hq : hW (hR2 xs) = xs
      · rw [decide_eq_true hq] at se
        have Y3 := Lib.hid (YES.out hm hq)
        generalize hW (hR2 xs) = WW at *
        clear hu hb YES NO EY EN SE hm hq e0 e1 WH BW
        go_wp2_with (first
          | (refine wpList_load_row rfl 37 (.tmp 4) rfl g5 rfl 37 DC (0, 0) _ GS6.out Try.underlying37 rfl IC.out ?_)
          | (refine wpList_store_row rfl 37 (.tmp 2) (.tmp 43) rfl w.heap.size DC rfl rfl 37 Z GR6.out IC.out ZC.out OC.out ?_))
        exact bodyPost_ret (v := .tuple #[.agg DC, .int .i64 0]) (results_cell_tmp Try.results16 _ _ w.heap.size 37 DC (0, 0) _ rfl (setRow_heap _ _ _ _ _ _ GR6.out) Try.underlying37 rfl IC.out) rfl (Y3.out _ (B6.out.trans (below_row _ _ (Nat.le_refl _))))
      · rw [decide_eq_false hq] at se
        have N3' := Lib.hid (NO.out (fun h => hq h.2))
        generalize hW (hR2 xs) = WW at *
        clear hu hb YES NO EY EN SE hm hq e0 e1 WH BW
        go_wp2_with (first
          | (refine wpList_store_row rfl 37 (.tmp 2) (.tmp 42) rfl w.heap.size Z rfl rfl 37 Z GR6.out IZ.out rfl OZ.out ?_)
          | (refine wpList_blank_met rfl 37 rfl (BY.out _) ?_))
        exact bodyPost_ret (v := .tuple #[.agg Z, .int .i64 3]) (results_cell_tmp Try.results16 _ _ w.heap.size 37 Z (0, 0) _ rfl (setRow_heap _ _ _ _ _ _ GR6.out) Try.underlying37 rfl IZ.out) rfl (N3'.out _ (B6.out.trans (below_row _ _ (Nat.le_refl _))))
    · rw [EN.out hm] at he'
      subst he'
      have N3' := Lib.hid (NO.out (fun h => hm h.1))
      clear hu hb YES NO EY EN SE hm WH BW
      go_wp2_with (first
        | (refine wpList_store_row rfl 37 (.tmp 2) (.tmp 42) rfl w.heap.size Z rfl rfl 37 Z GR6.out IZ.out rfl OZ.out ?_)
        | (refine wpList_blank_met rfl 37 rfl (BY.out _) ?_))
      exact bodyPost_ret (v := .tuple #[.agg Z, .int .i64 3]) (results_cell_tmp Try.results16 _ _ w.heap.size 37 Z (0, 0) _ rfl (setRow_heap _ _ _ _ _ _ GR6.out) Try.underlying37 rfl IZ.out) rfl (N3'.out _ (B6.out.trans (below_row _ _ (Nat.le_refl _))))
theorem refRH (v : Value) (xs : List Int) (w : World) (h : Sees w v xs) : Calls Try.prog 16 #[v] w (RefHP w xs) := by
  by_cases hl : xs.length = 512
  · exact refRH_full v xs hl w h
  · exact refRH_other v xs hl w h
end Go.Proofs.Ytplffbpnjnbolaa
