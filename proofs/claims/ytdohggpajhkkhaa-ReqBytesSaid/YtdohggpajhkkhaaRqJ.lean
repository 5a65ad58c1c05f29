/-
  The contract of req.Right. Condition: the value reads as a request, with data of at most 5000 bytes.
-/
import Derived.Test.YtdohggpajhkkhaaRqH
import Derived.Lib.Strings
namespace Go.Proofs.Ytdohggpajhkkhaa
open Go.RowKit
def wrL (p : Rq) : List Int := joinL (fieldW p) (lets (letS p.k))
/-- What is read of what is written. -/
def reL (p : Rq) : RT := runR (lets (letS p.k)) (pz p.k, wrL p, false)
def rightQ (p : Rq) : Bool := kindB p.k && (mayB p && sameB p (reL p).1)
theorem fieldW_le {p : Rq} (hp : RQ p) (l : Nat) (hl : isL l = true) : l ≠ 100 → (fieldW p l).length ≤ 32 := by
  intro h
  unfold fieldW
  by_cases hn : isN l = true
  · rw [if_pos hn, be_len]; unfold widN; split <;> (try split) <;> (try split) <;> omega
  · rw [if_neg hn]
    by_cases hk : isK l = true
    · rw [if_pos hk, (rc_key hk hp (.slice none 0 0)).1.1]; omega
    · exfalso
      unfold isL at hl
      simp only [Bool.or_eq_true, beq_iff_eq] at hl
      rcases hl with (h1 | h1) | h1
      · exact hn h1
      · exact hk h1
      · exact h h1
theorem fieldW_byt {p : Rq} (hp : RQ p) (hd : Byt p.d) (l : Nat) : Byt (fieldW p l) := by
  unfold fieldW
  split
  · exact be_byt _ _
  · split
    · rename_i hk
      exact (rc_key hk hp (.slice none 0 0)).1.2
    · exact hd
theorem join_byt {F : Nat → List Int} (h : ∀ l, Byt (F l)) : ∀ ls, Byt (joinL F ls)
  | [] => fun _ hx => by simp [joinL] at hx
  | l :: r => by
    have e : joinL F (l :: r) = F l ++ joinL F r := by simp [joinL]
    rw [e]
    exact (h l).append (join_byt h r)
theorem wrL_byt {p : Rq} (hp : RQ p) (hd : Byt p.d) : Byt (wrL p) := join_byt (fieldW_byt hp hd) _
theorem join_bd {p : Rq} (hp : RQ p) : ∀ ls : List Nat, (∀ l ∈ ls, isL l = true) → (joinL (fieldW p) ls).length ≤ 32 * ls.length + (ls.count 100) * p.d.length
  | [], _ => by simp [joinL]
  | l :: r, h => by
    have e : joinL (fieldW p) (l :: r) = fieldW p l ++ joinL (fieldW p) r := by simp [joinL]
    have ih := join_bd hp r (fun x hx => h x (by simp [hx]))
    rw [e, List.length_append, List.length_cons, List.count_cons]
    by_cases hl : l = 100
    · subst hl
      have e2 : (fieldW p 100).length = p.d.length := rfl
      simp only [beq_self_eq_true, if_true, e2]
      rw [Nat.add_mul]
      omega
    · have := fieldW_le hp l (h l (by simp)) hl
      rw [if_neg (by simpa using hl)]
      simp only [Nat.add_zero]
      omega
theorem let_list {k : Int} (h : kindB k = true) : (lets (letS k)).length ≤ 6 ∧ (lets (letS k)).count 100 ≤ 1 ∧ (∀ l ∈ lets (letS k), isL l = true) ∧ (lets (letS k)).Nodup := by
  rcases kind_cases h with rfl | rfl | rfl | rfl | rfl | rfl | rfl | rfl | rfl | rfl | rfl | rfl | rfl | rfl | rfl | rfl <;> decide
theorem wrL_len {p : Rq} (hp : RQ p) (h : kindB p.k = true) : (wrL p).length ≤ 192 + p.d.length := by
  obtain ⟨h1, h2, h3, _⟩ := let_list h
  have := join_bd hp _ h3
  have h4 : (lets (letS p.k)).count 100 * p.d.length ≤ 1 * p.d.length := Nat.mul_le_mul_right _ h2
  unfold wrL
  omega
theorem reL_ok {p : Rq} (hp : RQ p) (hd : Byt p.d) (h5 : p.d.length ≤ 5000) (h : kindB p.k = true) : RTok (reL p) :=
  runR_ok _ ⟨pz_ok hp.k, wrL_byt hp hd, by have := wrL_len hp h; show (wrL p).length ≤ 10000; omega⟩
theorem writtenC {p : Rq} (hp : RQ p) (h5 : p.d.length ≤ 5000) (h : kindB p.k = true) (dv : Value) (w : World) (hd : Sees w dv p.d) : Calls Try.prog 19 #[.agg (rc p dv).toArray, .string (letS p.k)] w (OwnP w (wrL p)) :=
  written hp dv (letS p.k) (let_ok p.k) (by have := wrL_len hp h; unfold wrL at this; omega) w hd
theorem read2C {p : Rq} (hp : RQ p) (h5 : p.d.length ≤ 5000) (h : kindB p.k = true) (g : Nat) (w : World) (hr : rx.RD w g (wrL p) false) : Calls Try.prog 26 #[.int .i64 p.k, .pointer (some ⟨g, 0, none⟩)] w (ReadQ w g (reL p)) :=
  read p.k hp.k g (wrL p) false (by have := wrL_len hp h; omega) w hr
theorem let_yes {k : Int} (h : kindB k = true) : (letS k).toList ≠ [] := by
  rw [Lib.toList_data]
  rcases kind_cases h with rfl | rfl | rfl | rfl | rfl | rfl | rfl | rfl | rfl | rfl | rfl | rfl | rfl | rfl | rfl | rfl <;> decide
set_option maxRecDepth 100000 in
set_option maxHeartbeats 4000000 in
theorem rightC {p : Rq} (hp : RQ p) (h5 : p.d.length ≤ 5000) (dv : Value) (w : World) (hd : Sees w dv p.d) :
    Calls Try.prog 15 #[.agg (rc p dv).toArray] w fun e w' => e = .returned (.bool (rightQ p)) ∧ Below w.heap.size w w' := by
  have hbd := hd.1
  have ic := Lib.hid (i26 hp dv)
  obtain ⟨w1, hw1⟩ : ∃ w1, w1 = w.alloc (.cells (rc p dv).toArray 26) := ⟨_, rfl⟩
  have b1 : Below w.heap.size w w1 := by rw [hw1]; exact (Below.refl _ _).alloc (Nat.le_refl _) _
  have g1 : w1.heap[w.heap.size]? = some (.cells (rc p dv).toArray 26 (0, 0)) := by rw [hw1]; exact heap_alloc_new w _
  have KA : Hid (∀ W : World, W.heap[w.heap.size]? = some (.cells (rc p dv).toArray 26 (0, 0)) → W.cell? ⟨w.heap.size, 0, none⟩ = some (.int .i64 p.k)) := fun W h => by rw [cell_of_row W _ _ _ _ _ h]; rfl
  have MC : Hid (∀ W, Below w.heap.size w W → Calls Try.prog 28 #[.agg (rc p dv).toArray] W fun e w' => e = .returned (.bool (mayB p)) ∧ Below W.heap.size W w') := fun W h => mayCount hp dv W (hd.below h)
  have SD : Hid (∀ W, Below w.heap.size w W → Sees W dv p.d) := fun W h => hd.below h
  have ck : w1.cell? ⟨w.heap.size, 0, none⟩ = some (.int .i64 p.k) := KA.out w1 g1
  have WR : Hid (kindB p.k = true → ∀ W, Below w.heap.size w W → Calls Try.prog 19 #[.agg (rc p dv).toArray, .string (letS p.k)] W (OwnP W (wrL p))) := fun hk W h => writtenC hp h5 hk dv W (hd.below h)
  have RE : Hid (kindB p.k = true → ∀ W g, rx.RD W g (wrL p) false → Calls Try.prog 26 #[.int .i64 p.k, .pointer (some ⟨g, 0, none⟩)] W (ReadQ W g (reL p))) := fun hk W g h => read2C hp h5 hk g W h
  have SA : Hid (∀ W du, Below w.heap.size w W → RQ (reL p).1 → Sees W du (reL p).1.d → Calls Try.prog 17 #[.agg (rc p dv).toArray, .agg (rc (reL p).1 du).toArray] W fun e w' => e = .returned (.bool (sameB p (reL p).1)) ∧ Below W.heap.size W w') := fun W du h hq hs => sameC hp hq dv du W (hd.below h) hs
  have LE : Hid (kindB p.k = true → (wrL p).length ≤ 140737488355328) := fun hk => by have := wrL_len hp hk; omega
  obtain ⟨C, hC⟩ : ∃ C, C = (rc p dv).toArray := ⟨_, rfl⟩
  rw [← hC] at ic g1 hw1 KA MC WR SA ⊢
  have B1 := Lib.hid b1
  have G1 := Lib.hid g1
  have HW1 := Lib.hid hw1
  unfold rightQ
  cases hk : kindB p.k with
  | false =>
    rw [Bool.false_and]
    have e := let_no hk
    have LT : Hid (∀ W : World, Calls Try.prog 20 #[.int .i64 p.k] W fun e w' => e = .returned (.string ⟨#[]⟩) ∧ W = w') := fun W => by rw [← e]; exact lettersOf p.k W
    generalize p.k = K at KA LT ck
    clear e hk hC hw1 g1 b1 hd hbd h5 WR RE SA LE SD MC hp
    go_enter Try.func15, Try.ntmps15
    go_wp2_with (rw [← HW1.out])
    refine (LT.out _).mono ?_
    rintro e w' ⟨rfl, rfl⟩
    go_wp2_with fail
    refine wp_region_held_drew (S := fun W => Below w.heap.size w W ∧ W.heap[w.heap.size]? = some (.cells C 26 (0, 0))) (by kernel_rfl) (⟨B1.out.drew, G1.out⟩) (fun hS => ?_)
    have hb0 : Below w1.heap.size w1 w1.drew := (Below.refl _ _).drew
    clear hb0 
    generalize w1.drew = Wfs at hS  ⊢
    refine' wpAnyH_take (i := 0) ?h1x0f ?hsx0f ?hfx0f ?hrx0f ?hQx0f (Or.inl ⟨?hwx0f, ?hyx0f⟩) hS ?restx0f
    case h1x0f => (simp only [List.getElem?_toArray, List.getElem?_cons_zero]; rfl)
    case hsx0f => kernel_rfl
    case hfx0f => kernel_rfl
    case hrx0f => kernel_rfl
    case hQx0f => exact fun _ _ _ h => h
    case hwx0f => rfl
    case hyx0f =>
      intro W hW
      go_simp
      try with_reducible rfl
    simp only [Act.put, List.setIfInBounds_toArray, List.set_cons_succ, List.set_cons_zero]
    refine' wpAnyH_take (i := 1) ?h1x1f ?hsx1f ?hfx1f ?hrx1f ?hQx1f (Or.inl ⟨?hwx1f, ?hyx1f⟩) hS ?restx1f
    case h1x1f => (simp only [List.getElem?_toArray, List.getElem?_cons_succ, List.getElem?_cons_zero]; rfl)
    case hsx1f => kernel_rfl
    case hfx1f => kernel_rfl
    case hrx1f => kernel_rfl
    case hQx1f => exact fun _ _ _ h => h
    case hwx1f => rfl
    case hyx1f =>
      intro W hW
      go_simp
      try with_reducible rfl
    simp only [Act.put, List.setIfInBounds_toArray, List.set_cons_succ, List.set_cons_zero]
    refine' wpAnyH_take (i := 2) ?h1x2f ?hsx2f ?hfx2f ?hrx2f ?hQx2f (Or.inl ⟨?hwx2f, ?hyx2f⟩) hS ?restx2f
    case h1x2f => (simp only [List.getElem?_toArray, List.getElem?_cons_succ, List.getElem?_cons_zero]; rfl)
    case hsx2f => kernel_rfl
    case hfx2f => kernel_rfl
    case hrx2f => kernel_rfl
    case hQx2f => exact fun _ _ _ h => h
    case hwx2f => rfl
    case hyx2f =>
      intro W hW
      go_simp
      try with_reducible rfl
    simp only [Act.put, List.setIfInBounds_toArray, List.set_cons_succ, List.set_cons_zero]
    refine' wpAnyH_take (i := 3) ?h1x3f ?hsx3f ?hfx3f ?hrx3f ?hQx3f (Or.inr ⟨?hwx3f, rfl⟩) hS ?restx3f
    case h1x3f => (simp only [List.getElem?_toArray, List.getElem?_cons_succ, List.getElem?_cons_zero]; rfl)
    case hsx3f => kernel_rfl
    case hfx3f => kernel_rfl
    case hrx3f => kernel_rfl
    case hQx3f => exact fun _ _ _ h => h
    case hwx3f => rfl
    simp only [Act.put, List.setIfInBounds_toArray, List.set_cons_succ, List.set_cons_zero]
    refine' wpAnyH_take (i := 4) ?h1x4f ?hsx4f ?hfx4f ?hrx4f ?hQx4f (Or.inr ⟨?hwx4f, rfl⟩) hS ?restx4f
    case h1x4f => (simp only [List.getElem?_toArray, List.getElem?_cons_succ, List.getElem?_cons_zero]; rfl)
    case hsx4f => kernel_rfl
    case hfx4f => kernel_rfl
    case hrx4f => kernel_rfl
    case hQx4f => exact fun _ _ _ h => h
    case hwx4f => rfl
    simp only [Act.put, List.setIfInBounds_toArray, List.set_cons_succ, List.set_cons_zero]
    refine' wpAnyH_take (i := 5) ?h1x5f ?hsx5f ?hfx5f ?hrx5f ?hQx5f (Or.inl ⟨?hwx5f, ?hyx5f⟩) hS ?restx5f
    case h1x5f => (simp only [List.getElem?_toArray, List.getElem?_cons_succ, List.getElem?_cons_zero]; rfl)
    case hsx5f => kernel_rfl
    case hfx5f => kernel_rfl
    case hrx5f => kernel_rfl
    case hQx5f => exact fun _ _ _ h => h
    case hwx5f => rfl
    case hyx5f =>
      intro W hW
      go_simp
      try with_reducible rfl
    simp only [Act.put, List.setIfInBounds_toArray, List.set_cons_succ, List.set_cons_zero]
    refine' wpAnyH_take (i := 6) ?h1x6f ?hsx6f ?hfx6f ?hrx6f ?hQx6f (Or.inl ⟨?hwx6f, ?hyx6f⟩) hS ?restx6f
    case h1x6f => (simp only [List.getElem?_toArray, List.getElem?_cons_succ, List.getElem?_cons_zero]; rfl)
    case hsx6f => kernel_rfl
    case hfx6f => kernel_rfl
    case hrx6f => kernel_rfl
    case hQx6f => exact fun _ _ _ h => h
    case hwx6f => rfl
    case hyx6f =>
      intro W hW
      go_simp
      try with_reducible rfl
    simp only [Act.put, List.setIfInBounds_toArray, List.set_cons_succ, List.set_cons_zero]
    refine' wpAnyH_take (i := 7) ?h1x7f ?hsx7f ?hfx7f ?hrx7f ?hQx7f (Or.inr ⟨?hwx7f, rfl⟩) hS ?restx7f
    case h1x7f => (simp only [List.getElem?_toArray, List.getElem?_cons_succ, List.getElem?_cons_zero]; rfl)
    case hsx7f => kernel_rfl
    case hfx7f => kernel_rfl
    case hrx7f => kernel_rfl
    case hQx7f => exact fun _ _ _ h => h
    case hwx7f => rfl
    simp only [Act.put, List.setIfInBounds_toArray, List.set_cons_succ, List.set_cons_zero]
    refine' wpAnyH_take (i := 8) ?h1x8f ?hsx8f ?hfx8f ?hrx8f ?hQx8f (Or.inr ⟨?hwx8f, rfl⟩) hS ?restx8f
    case h1x8f => (simp only [List.getElem?_toArray, List.getElem?_cons_succ, List.getElem?_cons_zero]; rfl)
    case hsx8f => kernel_rfl
    case hfx8f => kernel_rfl
    case hrx8f => kernel_rfl
    case hQx8f => exact fun _ _ _ h => h
    case hwx8f => rfl
    simp only [Act.put, List.setIfInBounds_toArray, List.set_cons_succ, List.set_cons_zero]
    refine' wpAnyH_take (i := 9) ?h1x9f ?hsx9f ?hfx9f ?hrx9f ?hQx9f (Or.inr ⟨?hwx9f, rfl⟩) hS ?restx9f
    case h1x9f => (simp only [List.getElem?_toArray, List.getElem?_cons_succ, List.getElem?_cons_zero]; rfl)
    case hsx9f => kernel_rfl
    case hfx9f => kernel_rfl
    case hrx9f => kernel_rfl
    case hQx9f => exact fun _ _ _ h => h
    case hwx9f => rfl
    simp only [Act.put, List.setIfInBounds_toArray, List.set_cons_succ, List.set_cons_zero]
    refine' wpAnyH_take (i := 10) ?h1x10f ?hsx10f ?hfx10f ?hrx10f ?hQx10f (Or.inr ⟨?hwx10f, rfl⟩) hS ?restx10f
    case h1x10f => (simp only [List.getElem?_toArray, List.getElem?_cons_succ, List.getElem?_cons_zero]; rfl)
    case hsx10f => kernel_rfl
    case hfx10f => kernel_rfl
    case hrx10f => kernel_rfl
    case hQx10f => exact fun _ _ _ h => h
    case hwx10f => rfl
    simp only [Act.put, List.setIfInBounds_toArray, List.set_cons_succ, List.set_cons_zero]
    refine' wpAnyH_take (i := 11) ?h1x11f ?hsx11f ?hfx11f ?hrx11f ?hQx11f (Or.inr ⟨?hwx11f, rfl⟩) hS ?restx11f
    case h1x11f => (simp only [List.getElem?_toArray, List.getElem?_cons_succ, List.getElem?_cons_zero]; rfl)
    case hsx11f => kernel_rfl
    case hfx11f => kernel_rfl
    case hrx11f => kernel_rfl
    case hQx11f => exact fun _ _ _ h => h
    case hwx11f => rfl
    simp only [Act.put, List.setIfInBounds_toArray, List.set_cons_succ, List.set_cons_zero]
    refine' wpAnyH_take (i := 12) ?h1x12f ?hsx12f ?hfx12f ?hrx12f ?hQx12f (Or.inr ⟨?hwx12f, rfl⟩) hS ?restx12f
    case h1x12f => (simp only [List.getElem?_toArray, List.getElem?_cons_succ, List.getElem?_cons_zero]; rfl)
    case hsx12f => kernel_rfl
    case hfx12f => kernel_rfl
    case hrx12f => kernel_rfl
    case hQx12f => exact fun _ _ _ h => h
    case hwx12f => rfl
    simp only [Act.put, List.setIfInBounds_toArray, List.set_cons_succ, List.set_cons_zero]
    refine' wpAnyH_take (i := 13) ?h1x13f ?hsx13f ?hfx13f ?hrx13f ?hQx13f (Or.inr ⟨?hwx13f, rfl⟩) hS ?restx13f
    case h1x13f => (simp only [List.getElem?_toArray, List.getElem?_cons_succ, List.getElem?_cons_zero]; rfl)
    case hsx13f => kernel_rfl
    case hfx13f => kernel_rfl
    case hrx13f => kernel_rfl
    case hQx13f => exact fun _ _ _ h => h
    case hwx13f => rfl
    simp only [Act.put, List.setIfInBounds_toArray, List.set_cons_succ, List.set_cons_zero]
    refine' wpAnyH_take (i := 14) ?h1x14f ?hsx14f ?hfx14f ?hrx14f ?hQx14f (Or.inr ⟨?hwx14f, rfl⟩) hS ?restx14f
    case h1x14f => (simp only [List.getElem?_toArray, List.getElem?_cons_succ, List.getElem?_cons_zero]; rfl)
    case hsx14f => kernel_rfl
    case hfx14f => kernel_rfl
    case hrx14f => kernel_rfl
    case hQx14f => exact fun _ _ _ h => h
    case hwx14f => rfl
    simp only [Act.put, List.setIfInBounds_toArray, List.set_cons_succ, List.set_cons_zero]
    refine' wpAnyH_take (i := 15) ?h1x15f ?hsx15f ?hfx15f ?hrx15f ?hQx15f (Or.inr ⟨?hwx15f, rfl⟩) hS ?restx15f
    case h1x15f => (simp only [List.getElem?_toArray, List.getElem?_cons_succ, List.getElem?_cons_zero]; rfl)
    case hsx15f => kernel_rfl
    case hfx15f => kernel_rfl
    case hrx15f => kernel_rfl
    case hQx15f => exact fun _ _ _ h => h
    case hwx15f => rfl
    simp only [Act.put, List.setIfInBounds_toArray, List.set_cons_succ, List.set_cons_zero]
    refine' wpAnyH_take (i := 16) ?h1x16f ?hsx16f ?hfx16f ?hrx16f ?hQx16f (Or.inl ⟨?hwx16f, ?hyx16f⟩) hS ?restx16f
    case h1x16f => (simp only [List.getElem?_toArray, List.getElem?_cons_succ, List.getElem?_cons_zero]; rfl)
    case hsx16f => kernel_rfl
    case hfx16f => kernel_rfl
    case hrx16f => kernel_rfl
    case hQx16f => exact fun _ _ _ h => h
    case hwx16f => rfl
    case hyx16f =>
      intro W hW
      go_simp
      try with_reducible rfl
    simp only [Act.put, List.setIfInBounds_toArray, List.set_cons_succ, List.set_cons_zero]
    refine' wpAnyH_take (i := 17) ?h1x17f ?hsx17f ?hfx17f ?hrx17f ?hQx17f (Or.inl ⟨?hwx17f, ?hyx17f⟩) hS ?restx17f
    case h1x17f => (simp only [List.getElem?_toArray, List.getElem?_cons_succ, List.getElem?_cons_zero]; rfl)
    case hsx17f => kernel_rfl
    case hfx17f => kernel_rfl
    case hrx17f => kernel_rfl
    case hQx17f => exact fun _ _ _ h => h
    case hwx17f => rfl
    case hyx17f =>
      intro W hW
      go_simp
      try with_reducible rfl
    simp only [Act.put, List.setIfInBounds_toArray, List.set_cons_succ, List.set_cons_zero]
    refine wpAnyH_done (by kernel_rfl) ?_ _
    go_wp2_with fail
    go_ret
    exact ⟨rfl, hS.1⟩
  | true =>
    rw [Bool.true_and]
    have hy := let_yes hk
    have LT : Hid (∀ W : World, Calls Try.prog 20 #[.int .i64 p.k] W fun e w' => e = .returned (.string (letS p.k)) ∧ W = w') := fun W => lettersOf p.k W
    have WR' := Lib.hid (WR.out hk)
    have RE' := Lib.hid (RE.out hk)
    have LE' := Lib.hid (LE.out hk)
    clear WR RE LE
    generalize letS p.k = LS at hy LT WR'
    generalize reL p = A at RE' SA ⊢
    generalize wrL p = X at WR' RE' LE'
    generalize sameB p A.1 = sb at SA ⊢
    generalize p.k = K at KA LT ck RE'
    have ne1 : (LS.toList == []) = false := by simpa using hy
    have NE := Lib.hid hy
    clear hy hk hC hw1 g1 b1 hd hbd h5 hp
    cases hm : mayB p with
    | false =>
      rw [hm] at MC
      rw [Bool.false_and]
      clear hm
      go_enter Try.func15, Try.ntmps15
      go_wp2_with (rw [← HW1.out])
      refine (LT.out _).mono ?_
      rintro e w' ⟨rfl, rfl⟩
      go_wp2_with fail
      refine wp_region_held_drew (S := fun W => Below w.heap.size w W ∧ W.heap[w.heap.size]? = some (.cells C 26 (0, 0))) (by kernel_rfl) (⟨B1.out.drew, G1.out⟩) (fun hS => ?_)
      have hb0 : Below w1.heap.size w1 w1.drew := (Below.refl _ _).drew
      clear hb0 
      generalize w1.drew = Wgs at hS  ⊢
      refine' wpAnyH_take (i := 0) ?h1x0g ?hsx0g ?hfx0g ?hrx0g ?hQx0g (Or.inl ⟨?hwx0g, ?hyx0g⟩) hS ?restx0g
      case h1x0g => (simp only [List.getElem?_toArray, List.getElem?_cons_zero]; rfl)
      case hsx0g => kernel_rfl
      case hfx0g => kernel_rfl
      case hrx0g => kernel_rfl
      case hQx0g => exact fun _ _ _ h => h
      case hwx0g => rfl
      case hyx0g =>
        intro W hW
        go_simp
        try with_reducible rfl
      simp only [Act.put, List.setIfInBounds_toArray, List.set_cons_succ, List.set_cons_zero]
      refine' wpAnyH_take (i := 1) ?h1x1g ?hsx1g ?hfx1g ?hrx1g ?hQx1g (Or.inl ⟨?hwx1g, ?hyx1g⟩) hS ?restx1g
      case h1x1g => (simp only [List.getElem?_toArray, List.getElem?_cons_succ, List.getElem?_cons_zero]; rfl)
      case hsx1g => kernel_rfl
      case hfx1g => kernel_rfl
      case hrx1g => kernel_rfl
      case hQx1g => exact fun _ _ _ h => h
      case hwx1g => rfl
      case hyx1g =>
        intro W hW
        go_simp
        try with_reducible rfl
      simp only [Act.put, List.setIfInBounds_toArray, List.set_cons_succ, List.set_cons_zero]
      refine' wpAnyH_take (i := 2) ?h1x2g ?hsx2g ?hfx2g ?hrx2g ?hQx2g (Or.inl ⟨?hwx2g, ?hyx2g⟩) hS ?restx2g
      case h1x2g => (simp only [List.getElem?_toArray, List.getElem?_cons_succ, List.getElem?_cons_zero]; rfl)
      case hsx2g => kernel_rfl
      case hfx2g => kernel_rfl
      case hrx2g => kernel_rfl
      case hQx2g => exact fun _ _ _ h => h
      case hwx2g => rfl
      case hyx2g =>
        intro W hW
        go_simp
        try with_reducible rfl
      simp only [Act.put, List.setIfInBounds_toArray, List.set_cons_succ, List.set_cons_zero]
      refine' wpAnyH_take (i := 3) ?h1x3g ?hsx3g ?hfx3g ?hrx3g ?hQx3g (yieldsIf_load_at ?hwx3g 26 (.tmp 1) ?hopx3g w.heap.size 0 rfl C _ (fun W hW => range_row hW.2) Try.underlying26 rfl ?hix3g) hS ?restx3g
      case h1x3g => (simp only [List.getElem?_toArray, List.getElem?_cons_succ, List.getElem?_cons_zero]; rfl)
      case hopx3g => rfl
      case hsx3g => kernel_rfl
      case hfx3g => kernel_rfl
      case hrx3g => kernel_rfl
      case hQx3g => exact fun _ _ _ h => h
      case hwx3g => rfl
      case hix3g => exact ic.out
      simp only [Act.put, List.setIfInBounds_toArray, List.set_cons_succ, List.set_cons_zero]
      refine wpAnyH_ready (rs := [4]) (by kernel_rfl) (by simp) ?_
      refine' (AllReadyH.cons ?hoc4g (fun K hK => ?stc4g) AllReadyH.nil)
      case hoc4g => (simp only [List.getElem?_toArray, List.getElem?_cons_succ, List.getElem?_cons_zero]; rfl)
      go_simp
      refine (MC.out Wgs hS.1).mono ?_
      rintro e Wgx4 ⟨rfl, hb⟩
      go_wp2_with fail
      refine hK.out _ _ (⟨hS.1.trans (hb.mono hS.1.size), (hb.block _ (blk_lt hS.2)).trans hS.2⟩) (fun hHeld => ?_)
      clear hK K
      try simp only [Act.put, List.setIfInBounds_toArray, List.set_cons_succ, List.set_cons_zero]
      clear hS
      have hS := hHeld
      clear hHeld
      clear hb
      refine' wpAnyH_take (i := 5) ?h1x5gx4 ?hsx5gx4 ?hfx5gx4 ?hrx5gx4 ?hQx5gx4 (Or.inl ⟨?hwx5gx4, ?hyx5gx4⟩) hS ?restx5gx4
      case h1x5gx4 => (simp only [List.getElem?_toArray, List.getElem?_cons_succ, List.getElem?_cons_zero]; rfl)
      case hsx5gx4 => kernel_rfl
      case hfx5gx4 => kernel_rfl
      case hrx5gx4 => kernel_rfl
      case hQx5gx4 => exact fun _ _ _ h => h
      case hwx5gx4 => rfl
      case hyx5gx4 =>
        intro W hW
        go_simp
        try with_reducible rfl
      simp only [Act.put, List.setIfInBounds_toArray, List.set_cons_succ, List.set_cons_zero]
      refine' wpAnyH_take (i := 6) ?h1x6gx4 ?hsx6gx4 ?hfx6gx4 ?hrx6gx4 ?hQx6gx4 (Or.inl ⟨?hwx6gx4, ?hyx6gx4⟩) hS ?restx6gx4
      case h1x6gx4 => (simp only [List.getElem?_toArray, List.getElem?_cons_succ, List.getElem?_cons_zero]; rfl)
      case hsx6gx4 => kernel_rfl
      case hfx6gx4 => kernel_rfl
      case hrx6gx4 => kernel_rfl
      case hQx6gx4 => exact fun _ _ _ h => h
      case hwx6gx4 => rfl
      case hyx6gx4 =>
        intro W hW
        go_simp
        try with_reducible rfl
      simp only [Act.put, List.setIfInBounds_toArray, List.set_cons_succ, List.set_cons_zero]
      refine' wpAnyH_take (i := 7) ?h1x7gx4 ?hsx7gx4 ?hfx7gx4 ?hrx7gx4 ?hQx7gx4 (Or.inr ⟨?hwx7gx4, rfl⟩) hS ?restx7gx4
      case h1x7gx4 => (simp only [List.getElem?_toArray, List.getElem?_cons_succ, List.getElem?_cons_zero]; rfl)
      case hsx7gx4 => kernel_rfl
      case hfx7gx4 => kernel_rfl
      case hrx7gx4 => kernel_rfl
      case hQx7gx4 => exact fun _ _ _ h => h
      case hwx7gx4 => rfl
      simp only [Act.put, List.setIfInBounds_toArray, List.set_cons_succ, List.set_cons_zero]
      refine' wpAnyH_take (i := 8) ?h1x8gx4 ?hsx8gx4 ?hfx8gx4 ?hrx8gx4 ?hQx8gx4 (Or.inr ⟨?hwx8gx4, rfl⟩) hS ?restx8gx4
      case h1x8gx4 => (simp only [List.getElem?_toArray, List.getElem?_cons_succ, List.getElem?_cons_zero]; rfl)
      case hsx8gx4 => kernel_rfl
      case hfx8gx4 => kernel_rfl
      case hrx8gx4 => kernel_rfl
      case hQx8gx4 => exact fun _ _ _ h => h
      case hwx8gx4 => rfl
      simp only [Act.put, List.setIfInBounds_toArray, List.set_cons_succ, List.set_cons_zero]
      refine' wpAnyH_take (i := 9) ?h1x9gx4 ?hsx9gx4 ?hfx9gx4 ?hrx9gx4 ?hQx9gx4 (Or.inr ⟨?hwx9gx4, rfl⟩) hS ?restx9gx4
      case h1x9gx4 => (simp only [List.getElem?_toArray, List.getElem?_cons_succ, List.getElem?_cons_zero]; rfl)
      case hsx9gx4 => kernel_rfl
      case hfx9gx4 => kernel_rfl
      case hrx9gx4 => kernel_rfl
      case hQx9gx4 => exact fun _ _ _ h => h
      case hwx9gx4 => rfl
      simp only [Act.put, List.setIfInBounds_toArray, List.set_cons_succ, List.set_cons_zero]
      refine' wpAnyH_take (i := 10) ?h1x10gx4 ?hsx10gx4 ?hfx10gx4 ?hrx10gx4 ?hQx10gx4 (Or.inr ⟨?hwx10gx4, rfl⟩) hS ?restx10gx4
      case h1x10gx4 => (simp only [List.getElem?_toArray, List.getElem?_cons_succ, List.getElem?_cons_zero]; rfl)
      case hsx10gx4 => kernel_rfl
      case hfx10gx4 => kernel_rfl
      case hrx10gx4 => kernel_rfl
      case hQx10gx4 => exact fun _ _ _ h => h
      case hwx10gx4 => rfl
      simp only [Act.put, List.setIfInBounds_toArray, List.set_cons_succ, List.set_cons_zero]
      refine' wpAnyH_take (i := 11) ?h1x11gx4 ?hsx11gx4 ?hfx11gx4 ?hrx11gx4 ?hQx11gx4 (Or.inr ⟨?hwx11gx4, rfl⟩) hS ?restx11gx4
      case h1x11gx4 => (simp only [List.getElem?_toArray, List.getElem?_cons_succ, List.getElem?_cons_zero]; rfl)
      case hsx11gx4 => kernel_rfl
      case hfx11gx4 => kernel_rfl
      case hrx11gx4 => kernel_rfl
      case hQx11gx4 => exact fun _ _ _ h => h
      case hwx11gx4 => rfl
      simp only [Act.put, List.setIfInBounds_toArray, List.set_cons_succ, List.set_cons_zero]
      refine' wpAnyH_take (i := 12) ?h1x12gx4 ?hsx12gx4 ?hfx12gx4 ?hrx12gx4 ?hQx12gx4 (Or.inr ⟨?hwx12gx4, rfl⟩) hS ?restx12gx4
      case h1x12gx4 => (simp only [List.getElem?_toArray, List.getElem?_cons_succ, List.getElem?_cons_zero]; rfl)
      case hsx12gx4 => kernel_rfl
      case hfx12gx4 => kernel_rfl
      case hrx12gx4 => kernel_rfl
      case hQx12gx4 => exact fun _ _ _ h => h
      case hwx12gx4 => rfl
      simp only [Act.put, List.setIfInBounds_toArray, List.set_cons_succ, List.set_cons_zero]
      refine' wpAnyH_take (i := 13) ?h1x13gx4 ?hsx13gx4 ?hfx13gx4 ?hrx13gx4 ?hQx13gx4 (Or.inr ⟨?hwx13gx4, rfl⟩) hS ?restx13gx4
      case h1x13gx4 => (simp only [List.getElem?_toArray, List.getElem?_cons_succ, List.getElem?_cons_zero]; rfl)
      case hsx13gx4 => kernel_rfl
      case hfx13gx4 => kernel_rfl
      case hrx13gx4 => kernel_rfl
      case hQx13gx4 => exact fun _ _ _ h => h
      case hwx13gx4 => rfl
      simp only [Act.put, List.setIfInBounds_toArray, List.set_cons_succ, List.set_cons_zero]
      refine' wpAnyH_take (i := 14) ?h1x14gx4 ?hsx14gx4 ?hfx14gx4 ?hrx14gx4 ?hQx14gx4 (Or.inr ⟨?hwx14gx4, rfl⟩) hS ?restx14gx4
      case h1x14gx4 => (simp only [List.getElem?_toArray, List.getElem?_cons_succ, List.getElem?_cons_zero]; rfl)
      case hsx14gx4 => kernel_rfl
      case hfx14gx4 => kernel_rfl
      case hrx14gx4 => kernel_rfl
      case hQx14gx4 => exact fun _ _ _ h => h
      case hwx14gx4 => rfl
      simp only [Act.put, List.setIfInBounds_toArray, List.set_cons_succ, List.set_cons_zero]
      refine' wpAnyH_take (i := 15) ?h1x15gx4 ?hsx15gx4 ?hfx15gx4 ?hrx15gx4 ?hQx15gx4 (Or.inr ⟨?hwx15gx4, rfl⟩) hS ?restx15gx4
      case h1x15gx4 => (simp only [List.getElem?_toArray, List.getElem?_cons_succ, List.getElem?_cons_zero]; rfl)
      case hsx15gx4 => kernel_rfl
      case hfx15gx4 => kernel_rfl
      case hrx15gx4 => kernel_rfl
      case hQx15gx4 => exact fun _ _ _ h => h
      case hwx15gx4 => rfl
      simp only [Act.put, List.setIfInBounds_toArray, List.set_cons_succ, List.set_cons_zero]
      refine' wpAnyH_take (i := 16) ?h1x16gx4 ?hsx16gx4 ?hfx16gx4 ?hrx16gx4 ?hQx16gx4 (Or.inl ⟨?hwx16gx4, ?hyx16gx4⟩) hS ?restx16gx4
      case h1x16gx4 => (simp only [List.getElem?_toArray, List.getElem?_cons_succ, List.getElem?_cons_zero]; rfl)
      case hsx16gx4 => kernel_rfl
      case hfx16gx4 => kernel_rfl
      case hrx16gx4 => kernel_rfl
      case hQx16gx4 => exact fun _ _ _ h => h
      case hwx16gx4 => rfl
      case hyx16gx4 =>
        intro W hW
        go_simp
        try with_reducible rfl
      simp only [Act.put, List.setIfInBounds_toArray, List.set_cons_succ, List.set_cons_zero]
      refine' wpAnyH_take (i := 17) ?h1x17gx4 ?hsx17gx4 ?hfx17gx4 ?hrx17gx4 ?hQx17gx4 (Or.inl ⟨?hwx17gx4, ?hyx17gx4⟩) hS ?restx17gx4
      case h1x17gx4 => (simp only [List.getElem?_toArray, List.getElem?_cons_succ, List.getElem?_cons_zero]; rfl)
      case hsx17gx4 => kernel_rfl
      case hfx17gx4 => kernel_rfl
      case hrx17gx4 => kernel_rfl
      case hQx17gx4 => exact fun _ _ _ h => h
      case hwx17gx4 => rfl
      case hyx17gx4 =>
        intro W hW
        go_simp
        try with_reducible rfl
      simp only [Act.put, List.setIfInBounds_toArray, List.set_cons_succ, List.set_cons_zero]
      refine wpAnyH_done (by kernel_rfl) ?_ _
      go_wp2_with fail
      go_ret
      exact ⟨rfl, hS.1⟩
    | true =>
      rw [hm] at MC
      rw [Bool.true_and]
      clear hm
      go_enter Try.func15, Try.ntmps15
      go_wp2_with (rw [← HW1.out])
      refine (LT.out _).mono ?_
      rintro e w' ⟨rfl, rfl⟩
      go_wp2_with fail
      have BW := Lib.hid (Below.refl w1.heap.size w1)
      refine wp_region_held_drew (S := fun W => Below w.heap.size w W ∧ W.heap[w.heap.size]? = some (.cells C 26 (0, 0))) (by kernel_rfl) (⟨B1.out.drew, G1.out⟩) (fun hS => ?_)
      have hb0 : Below w1.heap.size w1 w1.drew := (Below.refl _ _).drew
      have qBW := BW.out.trans (hb0.mono BW.out.size)
      clear hb0 BW
      generalize w1.drew = Whs at hS qBW ⊢
      have BW := Lib.hid qBW
      clear qBW
      refine' wpAnyH_take (i := 0) ?h1x0h ?hsx0h ?hfx0h ?hrx0h ?hQx0h (Or.inl ⟨?hwx0h, ?hyx0h⟩) hS ?restx0h
      case h1x0h => (simp only [List.getElem?_toArray, List.getElem?_cons_zero]; rfl)
      case hsx0h => kernel_rfl
      case hfx0h => kernel_rfl
      case hrx0h => kernel_rfl
      case hQx0h => exact fun _ _ _ h => h
      case hwx0h => rfl
      case hyx0h =>
        intro W hW
        go_simp
        try with_reducible rfl
      simp only [Act.put, List.setIfInBounds_toArray, List.set_cons_succ, List.set_cons_zero]
      refine' wpAnyH_take (i := 1) ?h1x1h ?hsx1h ?hfx1h ?hrx1h ?hQx1h (Or.inl ⟨?hwx1h, ?hyx1h⟩) hS ?restx1h
      case h1x1h => (simp only [List.getElem?_toArray, List.getElem?_cons_succ, List.getElem?_cons_zero]; rfl)
      case hsx1h => kernel_rfl
      case hfx1h => kernel_rfl
      case hrx1h => kernel_rfl
      case hQx1h => exact fun _ _ _ h => h
      case hwx1h => rfl
      case hyx1h =>
        intro W hW
        go_simp
        try with_reducible rfl
      simp only [Act.put, List.setIfInBounds_toArray, List.set_cons_succ, List.set_cons_zero]
      refine' wpAnyH_take (i := 2) ?h1x2h ?hsx2h ?hfx2h ?hrx2h ?hQx2h (Or.inl ⟨?hwx2h, ?hyx2h⟩) hS ?restx2h
      case h1x2h => (simp only [List.getElem?_toArray, List.getElem?_cons_succ, List.getElem?_cons_zero]; rfl)
      case hsx2h => kernel_rfl
      case hfx2h => kernel_rfl
      case hrx2h => kernel_rfl
      case hQx2h => exact fun _ _ _ h => h
      case hwx2h => rfl
      case hyx2h =>
        intro W hW
        go_simp
        try with_reducible rfl
      simp only [Act.put, List.setIfInBounds_toArray, List.set_cons_succ, List.set_cons_zero]
      refine' wpAnyH_take (i := 3) ?h1x3h ?hsx3h ?hfx3h ?hrx3h ?hQx3h (yieldsIf_load_at ?hwx3h 26 (.tmp 1) ?hopx3h w.heap.size 0 rfl C _ (fun W hW => range_row hW.2) Try.underlying26 rfl ?hix3h) hS ?restx3h
      case h1x3h => (simp only [List.getElem?_toArray, List.getElem?_cons_succ, List.getElem?_cons_zero]; rfl)
      case hopx3h => rfl
      case hsx3h => kernel_rfl
      case hfx3h => kernel_rfl
      case hrx3h => kernel_rfl
      case hQx3h => exact fun _ _ _ h => h
      case hwx3h => rfl
      case hix3h => exact ic.out
      simp only [Act.put, List.setIfInBounds_toArray, List.set_cons_succ, List.set_cons_zero]
      refine wpAnyH_ready (rs := [4]) (by kernel_rfl) (by simp) ?_
      refine' (AllReadyH.cons ?hoc4h (fun K hK => ?stc4h) AllReadyH.nil)
      case hoc4h => (simp only [List.getElem?_toArray, List.getElem?_cons_succ, List.getElem?_cons_zero]; rfl)
      go_simp
      refine (MC.out Whs hS.1).mono ?_
      rintro e Whx4 ⟨rfl, hb⟩
      have BW := Lib.hid (BW.out.trans (hb.mono BW.out.size))
      go_wp2_with fail
      refine hK.out _ _ (⟨hS.1.trans (hb.mono hS.1.size), (hb.block _ (blk_lt hS.2)).trans hS.2⟩) (fun hHeld => ?_)
      clear hK K
      try simp only [Act.put, List.setIfInBounds_toArray, List.set_cons_succ, List.set_cons_zero]
      clear hS
      have hS := hHeld
      clear hHeld
      clear hb
      refine' wpAnyH_take (i := 5) ?h1x5hx4 ?hsx5hx4 ?hfx5hx4 ?hrx5hx4 ?hQx5hx4 (Or.inl ⟨?hwx5hx4, ?hyx5hx4⟩) hS ?restx5hx4
      case h1x5hx4 => (simp only [List.getElem?_toArray, List.getElem?_cons_succ, List.getElem?_cons_zero]; rfl)
      case hsx5hx4 => kernel_rfl
      case hfx5hx4 => kernel_rfl
      case hrx5hx4 => kernel_rfl
      case hQx5hx4 => exact fun _ _ _ h => h
      case hwx5hx4 => rfl
      case hyx5hx4 =>
        intro W hW
        go_simp
        try with_reducible rfl
      simp only [Act.put, List.setIfInBounds_toArray, List.set_cons_succ, List.set_cons_zero]
      refine' wpAnyH_take (i := 6) ?h1x6hx4 ?hsx6hx4 ?hfx6hx4 ?hrx6hx4 ?hQx6hx4 (Or.inl ⟨?hwx6hx4, ?hyx6hx4⟩) hS ?restx6hx4
      case h1x6hx4 => (simp only [List.getElem?_toArray, List.getElem?_cons_succ, List.getElem?_cons_zero]; rfl)
      case hsx6hx4 => kernel_rfl
      case hfx6hx4 => kernel_rfl
      case hrx6hx4 => kernel_rfl
      case hQx6hx4 => exact fun _ _ _ h => h
      case hwx6hx4 => rfl
      case hyx6hx4 =>
        intro W hW
        go_simp
        try with_reducible rfl
      simp only [Act.put, List.setIfInBounds_toArray, List.set_cons_succ, List.set_cons_zero]
      refine' wpAnyH_take (i := 7) ?h1x7hx4 ?hsx7hx4 ?hfx7hx4 ?hrx7hx4 ?hQx7hx4 (yieldsIf_load_at ?hwx7hx4 26 (.tmp 1) ?hopx7hx4 w.heap.size 0 rfl C _ (fun W hW => range_row hW.2) Try.underlying26 rfl ?hix7hx4) hS ?restx7hx4
      case h1x7hx4 => (simp only [List.getElem?_toArray, List.getElem?_cons_succ, List.getElem?_cons_zero]; rfl)
      case hopx7hx4 => rfl
      case hsx7hx4 => kernel_rfl
      case hfx7hx4 => kernel_rfl
      case hrx7hx4 => kernel_rfl
      case hQx7hx4 => exact fun _ _ _ h => h
      case hwx7hx4 => rfl
      case hix7hx4 => exact ic.out
      simp only [Act.put, List.setIfInBounds_toArray, List.set_cons_succ, List.set_cons_zero]
      refine' wpAnyH_take (i := 8) ?h1x8hx4 ?hsx8hx4 ?hfx8hx4 ?hrx8hx4 ?hQx8hx4 (Or.inl ⟨?hwx8hx4, ?hyx8hx4⟩) hS ?restx8hx4
      case h1x8hx4 => (simp only [List.getElem?_toArray, List.getElem?_cons_succ, List.getElem?_cons_zero]; rfl)
      case hsx8hx4 => kernel_rfl
      case hfx8hx4 => kernel_rfl
      case hrx8hx4 => kernel_rfl
      case hQx8hx4 => exact fun _ _ _ h => h
      case hwx8hx4 => rfl
      case hyx8hx4 =>
        intro W hW
        go_simp
        try with_reducible rfl
      simp only [Act.put, List.setIfInBounds_toArray, List.set_cons_succ, List.set_cons_zero]
      refine' wpAnyH_take (i := 10) ?h1x10hx4 ?hsx10hx4 ?hfx10hx4 ?hrx10hx4 ?hQx10hx4 (yieldsIf_load_at ?hwx10hx4 26 (.tmp 1) ?hopx10hx4 w.heap.size 0 rfl C _ (fun W hW => range_row hW.2) Try.underlying26 rfl ?hix10hx4) hS ?restx10hx4
      case h1x10hx4 => (simp only [List.getElem?_toArray, List.getElem?_cons_succ, List.getElem?_cons_zero]; rfl)
      case hopx10hx4 => rfl
      case hsx10hx4 => kernel_rfl
      case hfx10hx4 => kernel_rfl
      case hrx10hx4 => kernel_rfl
      case hQx10hx4 => exact fun _ _ _ h => h
      case hwx10hx4 => rfl
      case hix10hx4 => exact ic.out
      simp only [Act.put, List.setIfInBounds_toArray, List.set_cons_succ, List.set_cons_zero]
      refine' wpAnyH_take (i := 11) ?h1x11hx4 ?hsx11hx4 ?hfx11hx4 ?hrx11hx4 ?hQx11hx4 (Or.inl ⟨?hwx11hx4, ?hyx11hx4⟩) hS ?restx11hx4
      case h1x11hx4 => (simp only [List.getElem?_toArray, List.getElem?_cons_succ, List.getElem?_cons_zero]; rfl)
      case hsx11hx4 => kernel_rfl
      case hfx11hx4 => kernel_rfl
      case hrx11hx4 => kernel_rfl
      case hQx11hx4 => exact fun _ _ _ h => h
      case hwx11hx4 => rfl
      case hyx11hx4 =>
        intro W hW
        go_simp
        try with_reducible rfl
      simp only [Act.put, List.setIfInBounds_toArray, List.set_cons_succ, List.set_cons_zero]
      refine' wpAnyH_take (i := 9) ?h1x9hx4 ?hsx9hx4 ?hfx9hx4 ?hrx9hx4 ?hQx9hx4 (Or.inl ⟨?hwx9hx4, ?hyx9hx4⟩) hS ?restx9hx4
      case h1x9hx4 => (simp only [List.getElem?_toArray, List.getElem?_cons_succ, List.getElem?_cons_zero]; rfl)
      case hsx9hx4 => kernel_rfl
      case hfx9hx4 => kernel_rfl
      case hrx9hx4 => kernel_rfl
      case hQx9hx4 => exact fun _ _ _ h => h
      case hwx9hx4 => rfl
      case hyx9hx4 =>
        intro W hW
        have dd := KA.out W hW.2
        go_simp
        try with_reducible rfl
      simp only [Act.put, List.setIfInBounds_toArray, List.set_cons_succ, List.set_cons_zero]
      refine wpAnyH_ready (rs := [12]) (by kernel_rfl) (by simp) ?_
      refine' (AllReadyH.cons ?hoc12hx4 (fun K hK => ?stc12hx4) AllReadyH.nil)
      case hoc12hx4 => (simp only [List.getElem?_toArray, List.getElem?_cons_succ, List.getElem?_cons_zero]; rfl)
      go_simp
      refine (WR'.out Whx4 hS.1).mono ?_
      rintro e Whx4x12 ⟨xo, co, rfl, ho, hb⟩
      have BW := Lib.hid (BW.out.trans (hb.mono BW.out.size))
      have SX := Lib.hid ho.sees
      clear ho
      go_wp2_with fail
      refine hK.out _ _ (⟨hS.1.trans (hb.mono hS.1.size), (hb.block _ (blk_lt hS.2)).trans hS.2⟩) (fun hHeld => ?_)
      clear hK K
      try simp only [Act.put, List.setIfInBounds_toArray, List.set_cons_succ, List.set_cons_zero]
      clear hS
      have hS := hHeld
      clear hHeld
      clear hb
      refine wpAnyH_ready (rs := [13]) (by kernel_rfl) (by simp) ?_
      refine' (AllReadyH.cons ?hoc13hx4x12 (fun K hK => ?stc13hx4x12) AllReadyH.nil)
      case hoc13hx4x12 => (simp only [List.getElem?_toArray, List.getElem?_cons_succ, List.getElem?_cons_zero]; rfl)
      have hz1 : w1.heap.size ≤ Whx4x12.heap.size := BW.out.size
      go_simp
      refine (rx.readn _ _ LE'.out Whx4x12 SX.out).mono ?_
      rintro e Whx4x12x13 ⟨gr, rfl, hrd, hb, hgr⟩
      have BW := Lib.hid (BW.out.trans (hb.mono BW.out.size))
      have SX := Lib.hid (SX.out.below hb)
      have RD := Lib.hid hrd
      have HG : Hid (w1.heap.size ≤ gr) := Nat.le_trans hz1 hgr
      clear hrd hgr hz1
      go_wp2_with fail
      refine hK.out _ _ (⟨hS.1.trans (hb.mono hS.1.size), (hb.block _ (blk_lt hS.2)).trans hS.2⟩) (fun hHeld => ?_)
      clear hK K
      try simp only [Act.put, List.setIfInBounds_toArray, List.set_cons_succ, List.set_cons_zero]
      clear hS
      have hS := hHeld
      clear hHeld
      clear hb
      refine wpAnyH_ready (rs := [14]) (by kernel_rfl) (by simp) ?_
      refine' (AllReadyH.cons ?hoc14hx4x12x13 (fun K hK => ?stc14hx4x12x13) AllReadyH.nil)
      case hoc14hx4x12x13 => (simp only [List.getElem?_toArray, List.getElem?_cons_succ, List.getElem?_cons_zero]; rfl)
      go_simp
      refine (RE'.out Whx4x12x13 gr RD.out).mono ?_
      rintro e Whx4x12x13x14 ⟨du, rfl, hok, _, hmo, hsd, _⟩
      have GL : w1.heap.size ≤ gr := HG.out
      have hbw : Below w1.heap.size Whx4x12x13 Whx4x12x13x14 := ⟨hmo.os, hmo.tape, hmo.output, hmo.size, fun k hk => hmo.block k (by have := RD.out.lt; omega) (by omega)⟩
      have SU := Lib.hid hsd
      have OK := Lib.hid hok.1
      have hbw2 := BW.out.trans hbw
      clear BW
      have BW := Lib.hid hbw2
      clear hbw2
      go_wp2_with fail
      refine hK.out _ _ ⟨hS.1.trans (hbw.mono (by have := B1.out.size; omega)), (hbw.block _ (blk_lt G1.out)).trans hS.2⟩ (fun hHeld => ?_)
      clear hK K
      try simp only [Act.put, List.setIfInBounds_toArray, List.set_cons_succ, List.set_cons_zero]
      clear hS
      have hS := hHeld
      clear hHeld
      clear hbw hmo hok hsd RD
      refine wpAnyH_ready (rs := [15]) (by kernel_rfl) (by simp) ?_
      refine' (AllReadyH.cons ?hoc15hx4x12x13x14 (fun K hK => ?stc15hx4x12x13x14) AllReadyH.nil)
      case hoc15hx4x12x13x14 => (simp only [List.getElem?_toArray, List.getElem?_cons_succ, List.getElem?_cons_zero]; rfl)
      go_simp
      refine (SA.out Whx4x12x13x14 du hS.1 OK.out SU.out).mono ?_
      rintro e Whx4x12x13x14x15 ⟨rfl, hb⟩
      have BW := Lib.hid (BW.out.trans (hb.mono BW.out.size))
      go_wp2_with fail
      refine hK.out _ _ (⟨hS.1.trans (hb.mono hS.1.size), (hb.block _ (blk_lt hS.2)).trans hS.2⟩) (fun hHeld => ?_)
      clear hK K
      try simp only [Act.put, List.setIfInBounds_toArray, List.set_cons_succ, List.set_cons_zero]
      clear hS
      have hS := hHeld
      clear hHeld
      clear hb
      refine' wpAnyH_take (i := 16) ?h1x16hx4x12x13x14x15 ?hsx16hx4x12x13x14x15 ?hfx16hx4x12x13x14x15 ?hrx16hx4x12x13x14x15 ?hQx16hx4x12x13x14x15 (Or.inl ⟨?hwx16hx4x12x13x14x15, ?hyx16hx4x12x13x14x15⟩) hS ?restx16hx4x12x13x14x15
      case h1x16hx4x12x13x14x15 => (simp only [List.getElem?_toArray, List.getElem?_cons_succ, List.getElem?_cons_zero]; rfl)
      case hsx16hx4x12x13x14x15 => kernel_rfl
      case hfx16hx4x12x13x14x15 => kernel_rfl
      case hrx16hx4x12x13x14x15 => kernel_rfl
      case hQx16hx4x12x13x14x15 => exact fun _ _ _ h => h
      case hwx16hx4x12x13x14x15 => rfl
      case hyx16hx4x12x13x14x15 =>
        intro W hW
        go_simp
        try with_reducible rfl
      simp only [Act.put, List.setIfInBounds_toArray, List.set_cons_succ, List.set_cons_zero]
      refine' wpAnyH_take (i := 17) ?h1x17hx4x12x13x14x15 ?hsx17hx4x12x13x14x15 ?hfx17hx4x12x13x14x15 ?hrx17hx4x12x13x14x15 ?hQx17hx4x12x13x14x15 (Or.inl ⟨?hwx17hx4x12x13x14x15, ?hyx17hx4x12x13x14x15⟩) hS ?restx17hx4x12x13x14x15
      case h1x17hx4x12x13x14x15 => (simp only [List.getElem?_toArray, List.getElem?_cons_succ, List.getElem?_cons_zero]; rfl)
      case hsx17hx4x12x13x14x15 => kernel_rfl
      case hfx17hx4x12x13x14x15 => kernel_rfl
      case hrx17hx4x12x13x14x15 => kernel_rfl
      case hQx17hx4x12x13x14x15 => exact fun _ _ _ h => h
      case hwx17hx4x12x13x14x15 => rfl
      case hyx17hx4x12x13x14x15 =>
        intro W hW
        go_simp
        try with_reducible rfl
      simp only [Act.put, List.setIfInBounds_toArray, List.set_cons_succ, List.set_cons_zero]
      refine wpAnyH_done (by kernel_rfl) ?_ _
      go_wp2_with fail
      go_ret
      exact ⟨rfl, hS.1⟩
end Go.Proofs.Ytdohggpajhkkhaa
