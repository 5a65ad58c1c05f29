/-
  Contracts of req.Same and req.Right. Condition: the values read as requests.
-/
import Derived.Test.YtdohggpajhkkhaaRqI
namespace Go.Proofs.Ytdohggpajhkkhaa
open Go.RowKit
def wholeL (p : Rq) : List Int := joinL (fieldA p) (lets allS)
def sameB (a b : Rq) : Bool := decide (a.k = b.k) && decide (wholeL a = wholeL b)
theorem wholeL_eq (p : Rq) : wholeL p = be 8 p.s ++ (be 8 p.t ++ (be 8 p.v ++ (be 8 p.b ++ (be 8 p.c ++ (be 8 p.n ++ (be 8 p.r ++ (be 8 p.q ++ (p.o ++ (p.f ++ (p.m ++ (p.x ++ p.d))))))))))) := by
  show joinL (fieldA p) [115, 116, 118, 98, 99, 110, 114, 113, 111, 102, 109, 120, 100] = _
  simp only [joinL, List.flatMap_cons, List.flatMap_nil, List.append_nil]
  rfl
theorem wholeL_len {p : Rq} (h : RQ p) : (wholeL p).length = 192 + p.d.length := by
  rw [wholeL_eq]
  simp only [List.length_append, be_len, h.o.1, h.f.1, h.m.1, h.x.1]
  omega
theorem wholeC {p : Rq} (hp : RQ p) (dv : Value) (w : World) (hd : Sees w dv p.d) : Calls Try.prog 34 #[.agg (rc p dv).toArray] w (OwnP w (wholeL p)) :=
  whole hp dv (by have h := wholeL_len hp; unfold wholeL at h; rw [h]; have := hp.d; omega) w hd
set_option maxRecDepth 100000 in
set_option maxHeartbeats 4000000 in
theorem sameC {a b : Rq} (ha : RQ a) (hb : RQ b) (dv du : Value) (w : World) (hd : Sees w dv a.d) (he : Sees w du b.d) :
    Calls Try.prog 17 #[.agg (rc a dv).toArray, .agg (rc b du).toArray] w fun e w' => e = .returned (.bool (sameB a b)) ∧ Below w.heap.size w w' := by
  have ia := Lib.hid (i26 ha dv)
  have ib := Lib.hid (i26 hb du)
  obtain ⟨A, hA⟩ : ∃ A, A = (rc a dv).toArray := ⟨_, rfl⟩
  obtain ⟨B, hB⟩ : ∃ B, B = (rc b du).toArray := ⟨_, rfl⟩
  rw [← hA] at ia ⊢
  rw [← hB] at ib ⊢
  obtain ⟨w1, hw1⟩ : ∃ w1, w1 = w.alloc (.cells A 26) := ⟨_, rfl⟩
  obtain ⟨w2, hw2⟩ : ∃ w2, w2 = w1.alloc (.cells B 26) := ⟨_, rfl⟩
  have z1 : w1.heap.size = w.heap.size + 1 := by rw [hw1]; simp
  have b1 : Below w.heap.size w w1 := by rw [hw1]; exact (Below.refl _ _).alloc (Nat.le_refl _) _
  have b2 : Below w1.heap.size w1 w2 := by rw [hw2]; exact (Below.refl _ _).alloc (Nat.le_refl _) _
  have g1 : w2.heap[w.heap.size]? = some (.cells A 26 (0, 0)) := by rw [b2.block _ (by omega), hw1]; exact heap_alloc_new w _
  have g2 : w2.heap[w.heap.size + 1]? = some (.cells B 26 (0, 0)) := by rw [hw2, ← z1]; exact heap_alloc_new w1 _
  have BE : Hid (Below w.heap.size w w2) := b1.trans (b2.mono (by omega))
  have WA : Hid (∀ W, Below w.heap.size w W → Calls Try.prog 34 #[.agg A] W (OwnP W (wholeL a))) := fun W h => by rw [hA]; exact wholeC ha dv W (hd.below h)
  have WB : Hid (∀ W, Below w.heap.size w W → Calls Try.prog 34 #[.agg B] W (OwnP W (wholeL b))) := fun W h => by rw [hB]; exact wholeC hb du W (he.below h)
  have ka0 : A[0]? = some (.int .i64 a.k) := by rw [hA]; rfl
  have kb0 : B[0]? = some (.int .i64 b.k) := by rw [hB]; rfl
  have ca : w2.cell? ⟨w.heap.size, 0, none⟩ = some (.int .i64 a.k) := by rw [cell_of_row w2 _ _ _ _ _ g1]; exact ka0
  have cb : w2.cell? ⟨w.heap.size + 1, 0, none⟩ = some (.int .i64 b.k) := by rw [cell_of_row w2 _ _ _ _ _ g2]; exact kb0
  have KA : Hid (∀ W : World, W.heap[w.heap.size]? = some (.cells A 26 (0, 0)) → W.cell? ⟨w.heap.size, 0, none⟩ = some (.int .i64 a.k)) := fun W h => by rw [cell_of_row W _ _ _ _ _ h]; exact ka0
  have KB : Hid (∀ W : World, W.heap[w.heap.size + 1]? = some (.cells B 26 (0, 0)) → W.cell? ⟨w.heap.size + 1, 0, none⟩ = some (.int .i64 b.k)) := fun W h => by rw [cell_of_row W _ _ _ _ _ h]; exact kb0
  have G1 := Lib.hid g1
  have G2 := Lib.hid g2
  have HW1 := Lib.hid hw1
  have HW2 := Lib.hid hw2
  clear hw1 hw2 z1 b1 b2 g1 g2 hd he hA hB ca cb ka0 kb0
  unfold sameB
  generalize wholeL a = X at WA ⊢
  generalize wholeL b = Y at WB ⊢
  generalize a.k = ka at KA ⊢
  generalize b.k = kbb at KB ⊢
  clear ha hb
  by_cases hk : ka = kbb
  · have d1 : (ka == kbb) = true := beq_iff_eq.2 hk
    rw [decide_eq_true hk, Bool.true_and]
    have D1 := Lib.hid d1
    clear hk d1
    go_enter Try.func17, Try.ntmps17
    go_wp2_with fail
    rw [← HW1.out, ← HW2.out]
    refine wp_region_held_drew (S := fun W => Below w.heap.size w W ∧ W.heap[w.heap.size]? = some (.cells A 26 (0, 0)) ∧ W.heap[(w.heap.size + 1)]? = some (.cells B 26 (0, 0))) (by kernel_rfl) (⟨BE.out.drew, G1.out, G2.out⟩) (fun hS => ?_)
    have hb0 : Below w2.heap.size w2 w2.drew := (Below.refl _ _).drew
    clear hb0 
    generalize w2.drew = Wrs at hS  ⊢
    refine' wpAnyH_take (i := 0) ?h1x0r ?hsx0r ?hfx0r ?hrx0r ?hQx0r (Or.inl ⟨?hwx0r, ?hyx0r⟩) hS ?restx0r
    case h1x0r => (simp only [List.getElem?_toArray, List.getElem?_cons_zero]; rfl)
    case hsx0r => kernel_rfl
    case hfx0r => kernel_rfl
    case hrx0r => kernel_rfl
    case hQx0r => exact fun _ _ _ h => h
    case hwx0r => rfl
    case hyx0r =>
      intro W hW
      go_simp
      try with_reducible rfl
    simp only [Act.put, List.setIfInBounds_toArray, List.set_cons_succ, List.set_cons_zero]
    refine' wpAnyH_take (i := 2) ?h1x2r ?hsx2r ?hfx2r ?hrx2r ?hQx2r (Or.inl ⟨?hwx2r, ?hyx2r⟩) hS ?restx2r
    case h1x2r => (simp only [List.getElem?_toArray, List.getElem?_cons_succ, List.getElem?_cons_zero]; rfl)
    case hsx2r => kernel_rfl
    case hfx2r => kernel_rfl
    case hrx2r => kernel_rfl
    case hQx2r => exact fun _ _ _ h => h
    case hwx2r => rfl
    case hyx2r =>
      intro W hW
      go_simp
      try with_reducible rfl
    simp only [Act.put, List.setIfInBounds_toArray, List.set_cons_succ, List.set_cons_zero]
    refine' wpAnyH_take (i := 1) ?h1x1r ?hsx1r ?hfx1r ?hrx1r ?hQx1r (Or.inl ⟨?hwx1r, ?hyx1r⟩) hS ?restx1r
    case h1x1r => (simp only [List.getElem?_toArray, List.getElem?_cons_succ, List.getElem?_cons_zero]; rfl)
    case hsx1r => kernel_rfl
    case hfx1r => kernel_rfl
    case hrx1r => kernel_rfl
    case hQx1r => exact fun _ _ _ h => h
    case hwx1r => rfl
    case hyx1r =>
      intro W hW
      have dd := KA.out W hW.2.1
      go_simp
      try with_reducible rfl
    simp only [Act.put, List.setIfInBounds_toArray, List.set_cons_succ, List.set_cons_zero]
    refine' wpAnyH_take (i := 3) ?h1x3r ?hsx3r ?hfx3r ?hrx3r ?hQx3r (Or.inl ⟨?hwx3r, ?hyx3r⟩) hS ?restx3r
    case h1x3r => (simp only [List.getElem?_toArray, List.getElem?_cons_succ, List.getElem?_cons_zero]; rfl)
    case hsx3r => kernel_rfl
    case hfx3r => kernel_rfl
    case hrx3r => kernel_rfl
    case hQx3r => exact fun _ _ _ h => h
    case hwx3r => rfl
    case hyx3r =>
      intro W hW
      have dd := KB.out W hW.2.2
      go_simp
      try with_reducible rfl
    simp only [Act.put, List.setIfInBounds_toArray, List.set_cons_succ, List.set_cons_zero]
    refine' wpAnyH_take (i := 4) ?h1x4r ?hsx4r ?hfx4r ?hrx4r ?hQx4r (Or.inl ⟨?hwx4r, ?hyx4r⟩) hS ?restx4r
    case h1x4r => (simp only [List.getElem?_toArray, List.getElem?_cons_succ, List.getElem?_cons_zero]; rfl)
    case hsx4r => kernel_rfl
    case hfx4r => kernel_rfl
    case hrx4r => kernel_rfl
    case hQx4r => exact fun _ _ _ h => h
    case hwx4r => rfl
    case hyx4r =>
      intro W hW
      have dd := D1.out
      go_simp
      try with_reducible rfl
    simp only [Act.put, List.setIfInBounds_toArray, List.set_cons_succ, List.set_cons_zero]
    refine' wpAnyH_take (i := 5) ?h1x5r ?hsx5r ?hfx5r ?hrx5r ?hQx5r (Or.inl ⟨?hwx5r, ?hyx5r⟩) hS ?restx5r
    case h1x5r => (simp only [List.getElem?_toArray, List.getElem?_cons_succ, List.getElem?_cons_zero]; rfl)
    case hsx5r => kernel_rfl
    case hfx5r => kernel_rfl
    case hrx5r => kernel_rfl
    case hQx5r => exact fun _ _ _ h => h
    case hwx5r => rfl
    case hyx5r =>
      intro W hW
      go_simp
      try with_reducible rfl
    simp only [Act.put, List.setIfInBounds_toArray, List.set_cons_succ, List.set_cons_zero]
    refine' wpAnyH_take (i := 6) ?h1x6r ?hsx6r ?hfx6r ?hrx6r ?hQx6r (yieldsIf_load_at ?hwx6r 26 (.tmp 2) ?hopx6r w.heap.size 0 rfl A _ (fun W hW => range_row hW.2.1) Try.underlying26 rfl ?hix6r) hS ?restx6r
    case h1x6r => (simp only [List.getElem?_toArray, List.getElem?_cons_succ, List.getElem?_cons_zero]; rfl)
    case hopx6r => rfl
    case hsx6r => kernel_rfl
    case hfx6r => kernel_rfl
    case hrx6r => kernel_rfl
    case hQx6r => exact fun _ _ _ h => h
    case hwx6r => rfl
    case hix6r => exact ia.out
    simp only [Act.put, List.setIfInBounds_toArray, List.set_cons_succ, List.set_cons_zero]
    refine' wpAnyH_take (i := 8) ?h1x8r ?hsx8r ?hfx8r ?hrx8r ?hQx8r (yieldsIf_load_at ?hwx8r 26 (.tmp 3) ?hopx8r (w.heap.size + 1) 0 rfl B _ (fun W hW => range_row hW.2.2) Try.underlying26 rfl ?hix8r) hS ?restx8r
    case h1x8r => (simp only [List.getElem?_toArray, List.getElem?_cons_succ, List.getElem?_cons_zero]; rfl)
    case hopx8r => rfl
    case hsx8r => kernel_rfl
    case hfx8r => kernel_rfl
    case hrx8r => kernel_rfl
    case hQx8r => exact fun _ _ _ h => h
    case hwx8r => rfl
    case hix8r => exact ib.out
    simp only [Act.put, List.setIfInBounds_toArray, List.set_cons_succ, List.set_cons_zero]
    refine wpAnyH_ready (rs := [7]) (by kernel_rfl) (by simp) ?_
    refine' (AllReadyH.cons ?hoc7r (fun K hK => ?stc7r) AllReadyH.nil)
    case hoc7r => (simp only [List.getElem?_toArray, List.getElem?_cons_succ, List.getElem?_cons_zero]; rfl)
    go_simp
    refine (WA.out Wrs hS.1).mono ?_
    rintro e Wrx7 ⟨x1, c1, rfl, ho, hb⟩
    have SA := Lib.hid ho.sees
    clear ho
    go_wp2_with fail
    refine hK.out _ _ (⟨hS.1.trans (hb.mono hS.1.size), (hb.block _ (blk_lt hS.2.1)).trans hS.2.1, (hb.block _ (blk_lt hS.2.2)).trans hS.2.2⟩) (fun hHeld => ?_)
    clear hK K
    try simp only [Act.put, List.setIfInBounds_toArray, List.set_cons_succ, List.set_cons_zero]
    clear hS
    have hS := hHeld
    clear hHeld
    clear hb
    refine wpAnyH_ready (rs := [9]) (by kernel_rfl) (by simp) ?_
    refine' (AllReadyH.cons ?hoc9rx7 (fun K hK => ?stc9rx7) AllReadyH.nil)
    case hoc9rx7 => (simp only [List.getElem?_toArray, List.getElem?_cons_succ, List.getElem?_cons_zero]; rfl)
    go_simp
    refine (WB.out Wrx7 hS.1).mono ?_
    rintro e Wrx7x9 ⟨x2, c2, rfl, ho, hb⟩
    have SA := Lib.hid (SA.out.below hb)
    have SB := Lib.hid ho.sees
    clear ho
    go_wp2_with fail
    refine hK.out _ _ (⟨hS.1.trans (hb.mono hS.1.size), (hb.block _ (blk_lt hS.2.1)).trans hS.2.1, (hb.block _ (blk_lt hS.2.2)).trans hS.2.2⟩) (fun hHeld => ?_)
    clear hK K
    try simp only [Act.put, List.setIfInBounds_toArray, List.set_cons_succ, List.set_cons_zero]
    clear hS
    have hS := hHeld
    clear hHeld
    clear hb
    refine wpAnyH_ready (rs := [10]) (by kernel_rfl) (by simp) ?_
    refine' (AllReadyH.cons ?hoc10rx7x9 (fun K hK => ?stc10rx7x9) AllReadyH.nil)
    case hoc10rx7x9 => (simp only [List.getElem?_toArray, List.getElem?_cons_succ, List.getElem?_cons_zero]; rfl)
    go_simp
    refine (os.same _ _ _ _ Wrx7x9 SA.out SB.out).mono ?_
    rintro e w' ⟨rfl, rfl⟩
    go_wp2_with fail
    refine hK.out _ _ hS (fun hHeld => ?_)
    clear hK K
    try simp only [Act.put, List.setIfInBounds_toArray, List.set_cons_succ, List.set_cons_zero]
    clear hS
    have hS := hHeld
    clear hHeld
    refine' wpAnyH_take (i := 11) ?h1x11rx7x9x10 ?hsx11rx7x9x10 ?hfx11rx7x9x10 ?hrx11rx7x9x10 ?hQx11rx7x9x10 (Or.inl ⟨?hwx11rx7x9x10, ?hyx11rx7x9x10⟩) hS ?restx11rx7x9x10
    case h1x11rx7x9x10 => (simp only [List.getElem?_toArray, List.getElem?_cons_succ, List.getElem?_cons_zero]; rfl)
    case hsx11rx7x9x10 => kernel_rfl
    case hfx11rx7x9x10 => kernel_rfl
    case hrx11rx7x9x10 => kernel_rfl
    case hQx11rx7x9x10 => exact fun _ _ _ h => h
    case hwx11rx7x9x10 => rfl
    case hyx11rx7x9x10 =>
      intro W hW
      go_simp
      try with_reducible rfl
    simp only [Act.put, List.setIfInBounds_toArray, List.set_cons_succ, List.set_cons_zero]
    refine' wpAnyH_take (i := 12) ?h1x12rx7x9x10 ?hsx12rx7x9x10 ?hfx12rx7x9x10 ?hrx12rx7x9x10 ?hQx12rx7x9x10 (Or.inl ⟨?hwx12rx7x9x10, ?hyx12rx7x9x10⟩) hS ?restx12rx7x9x10
    case h1x12rx7x9x10 => (simp only [List.getElem?_toArray, List.getElem?_cons_succ, List.getElem?_cons_zero]; rfl)
    case hsx12rx7x9x10 => kernel_rfl
    case hfx12rx7x9x10 => kernel_rfl
    case hrx12rx7x9x10 => kernel_rfl
    case hQx12rx7x9x10 => exact fun _ _ _ h => h
    case hwx12rx7x9x10 => rfl
    case hyx12rx7x9x10 =>
      intro W hW
      go_simp
      try with_reducible rfl
    simp only [Act.put, List.setIfInBounds_toArray, List.set_cons_succ, List.set_cons_zero]
    refine wpAnyH_done (by kernel_rfl) ?_ _
    go_wp2_with fail
    go_ret
    exact ⟨rfl, hS.1⟩
  · have d1 : (ka == kbb) = false := beq_eq_false_iff_ne.2 hk
    rw [decide_eq_false hk, Bool.false_and]
    have D1 := Lib.hid d1
    clear hk d1
    go_enter Try.func17, Try.ntmps17
    go_wp2_with fail
    rw [← HW1.out, ← HW2.out]
    refine wp_region_held_drew (S := fun W => Below w.heap.size w W ∧ W.heap[w.heap.size]? = some (.cells A 26 (0, 0)) ∧ W.heap[(w.heap.size + 1)]? = some (.cells B 26 (0, 0))) (by kernel_rfl) (⟨BE.out.drew, G1.out, G2.out⟩) (fun hS => ?_)
    have hb0 : Below w2.heap.size w2 w2.drew := (Below.refl _ _).drew
    clear hb0 
    generalize w2.drew = Wqs at hS  ⊢
    refine' wpAnyH_take (i := 0) ?h1x0q ?hsx0q ?hfx0q ?hrx0q ?hQx0q (Or.inl ⟨?hwx0q, ?hyx0q⟩) hS ?restx0q
    case h1x0q => (simp only [List.getElem?_toArray, List.getElem?_cons_zero]; rfl)
    case hsx0q => kernel_rfl
    case hfx0q => kernel_rfl
    case hrx0q => kernel_rfl
    case hQx0q => exact fun _ _ _ h => h
    case hwx0q => rfl
    case hyx0q =>
      intro W hW
      go_simp
      try with_reducible rfl
    simp only [Act.put, List.setIfInBounds_toArray, List.set_cons_succ, List.set_cons_zero]
    refine' wpAnyH_take (i := 2) ?h1x2q ?hsx2q ?hfx2q ?hrx2q ?hQx2q (Or.inl ⟨?hwx2q, ?hyx2q⟩) hS ?restx2q
    case h1x2q => (simp only [List.getElem?_toArray, List.getElem?_cons_succ, List.getElem?_cons_zero]; rfl)
    case hsx2q => kernel_rfl
    case hfx2q => kernel_rfl
    case hrx2q => kernel_rfl
    case hQx2q => exact fun _ _ _ h => h
    case hwx2q => rfl
    case hyx2q =>
      intro W hW
      go_simp
      try with_reducible rfl
    simp only [Act.put, List.setIfInBounds_toArray, List.set_cons_succ, List.set_cons_zero]
    refine' wpAnyH_take (i := 1) ?h1x1q ?hsx1q ?hfx1q ?hrx1q ?hQx1q (Or.inl ⟨?hwx1q, ?hyx1q⟩) hS ?restx1q
    case h1x1q => (simp only [List.getElem?_toArray, List.getElem?_cons_succ, List.getElem?_cons_zero]; rfl)
    case hsx1q => kernel_rfl
    case hfx1q => kernel_rfl
    case hrx1q => kernel_rfl
    case hQx1q => exact fun _ _ _ h => h
    case hwx1q => rfl
    case hyx1q =>
      intro W hW
      have dd := KA.out W hW.2.1
      go_simp
      try with_reducible rfl
    simp only [Act.put, List.setIfInBounds_toArray, List.set_cons_succ, List.set_cons_zero]
    refine' wpAnyH_take (i := 3) ?h1x3q ?hsx3q ?hfx3q ?hrx3q ?hQx3q (Or.inl ⟨?hwx3q, ?hyx3q⟩) hS ?restx3q
    case h1x3q => (simp only [List.getElem?_toArray, List.getElem?_cons_succ, List.getElem?_cons_zero]; rfl)
    case hsx3q => kernel_rfl
    case hfx3q => kernel_rfl
    case hrx3q => kernel_rfl
    case hQx3q => exact fun _ _ _ h => h
    case hwx3q => rfl
    case hyx3q =>
      intro W hW
      have dd := KB.out W hW.2.2
      go_simp
      try with_reducible rfl
    simp only [Act.put, List.setIfInBounds_toArray, List.set_cons_succ, List.set_cons_zero]
    refine' wpAnyH_take (i := 4) ?h1x4q ?hsx4q ?hfx4q ?hrx4q ?hQx4q (Or.inl ⟨?hwx4q, ?hyx4q⟩) hS ?restx4q
    case h1x4q => (simp only [List.getElem?_toArray, List.getElem?_cons_succ, List.getElem?_cons_zero]; rfl)
    case hsx4q => kernel_rfl
    case hfx4q => kernel_rfl
    case hrx4q => kernel_rfl
    case hQx4q => exact fun _ _ _ h => h
    case hwx4q => rfl
    case hyx4q =>
      intro W hW
      have dd := D1.out
      go_simp
      try with_reducible rfl
    simp only [Act.put, List.setIfInBounds_toArray, List.set_cons_succ, List.set_cons_zero]
    refine' wpAnyH_take (i := 5) ?h1x5q ?hsx5q ?hfx5q ?hrx5q ?hQx5q (Or.inl ⟨?hwx5q, ?hyx5q⟩) hS ?restx5q
    case h1x5q => (simp only [List.getElem?_toArray, List.getElem?_cons_succ, List.getElem?_cons_zero]; rfl)
    case hsx5q => kernel_rfl
    case hfx5q => kernel_rfl
    case hrx5q => kernel_rfl
    case hQx5q => exact fun _ _ _ h => h
    case hwx5q => rfl
    case hyx5q =>
      intro W hW
      go_simp
      try with_reducible rfl
    simp only [Act.put, List.setIfInBounds_toArray, List.set_cons_succ, List.set_cons_zero]
    refine' wpAnyH_take (i := 6) ?h1x6q ?hsx6q ?hfx6q ?hrx6q ?hQx6q (Or.inr ⟨?hwx6q, rfl⟩) hS ?restx6q
    case h1x6q => (simp only [List.getElem?_toArray, List.getElem?_cons_succ, List.getElem?_cons_zero]; rfl)
    case hsx6q => kernel_rfl
    case hfx6q => kernel_rfl
    case hrx6q => kernel_rfl
    case hQx6q => exact fun _ _ _ h => h
    case hwx6q => rfl
    simp only [Act.put, List.setIfInBounds_toArray, List.set_cons_succ, List.set_cons_zero]
    refine' wpAnyH_take (i := 7) ?h1x7q ?hsx7q ?hfx7q ?hrx7q ?hQx7q (Or.inr ⟨?hwx7q, rfl⟩) hS ?restx7q
    case h1x7q => (simp only [List.getElem?_toArray, List.getElem?_cons_succ, List.getElem?_cons_zero]; rfl)
    case hsx7q => kernel_rfl
    case hfx7q => kernel_rfl
    case hrx7q => kernel_rfl
    case hQx7q => exact fun _ _ _ h => h
    case hwx7q => rfl
    simp only [Act.put, List.setIfInBounds_toArray, List.set_cons_succ, List.set_cons_zero]
    refine' wpAnyH_take (i := 8) ?h1x8q ?hsx8q ?hfx8q ?hrx8q ?hQx8q (Or.inr ⟨?hwx8q, rfl⟩) hS ?restx8q
    case h1x8q => (simp only [List.getElem?_toArray, List.getElem?_cons_succ, List.getElem?_cons_zero]; rfl)
    case hsx8q => kernel_rfl
    case hfx8q => kernel_rfl
    case hrx8q => kernel_rfl
    case hQx8q => exact fun _ _ _ h => h
    case hwx8q => rfl
    simp only [Act.put, List.setIfInBounds_toArray, List.set_cons_succ, List.set_cons_zero]
    refine' wpAnyH_take (i := 9) ?h1x9q ?hsx9q ?hfx9q ?hrx9q ?hQx9q (Or.inr ⟨?hwx9q, rfl⟩) hS ?restx9q
    case h1x9q => (simp only [List.getElem?_toArray, List.getElem?_cons_succ, List.getElem?_cons_zero]; rfl)
    case hsx9q => kernel_rfl
    case hfx9q => kernel_rfl
    case hrx9q => kernel_rfl
    case hQx9q => exact fun _ _ _ h => h
    case hwx9q => rfl
    simp only [Act.put, List.setIfInBounds_toArray, List.set_cons_succ, List.set_cons_zero]
    refine' wpAnyH_take (i := 10) ?h1x10q ?hsx10q ?hfx10q ?hrx10q ?hQx10q (Or.inr ⟨?hwx10q, rfl⟩) hS ?restx10q
    case h1x10q => (simp only [List.getElem?_toArray, List.getElem?_cons_succ, List.getElem?_cons_zero]; rfl)
    case hsx10q => kernel_rfl
    case hfx10q => kernel_rfl
    case hrx10q => kernel_rfl
    case hQx10q => exact fun _ _ _ h => h
    case hwx10q => rfl
    simp only [Act.put, List.setIfInBounds_toArray, List.set_cons_succ, List.set_cons_zero]
    refine' wpAnyH_take (i := 11) ?h1x11q ?hsx11q ?hfx11q ?hrx11q ?hQx11q (Or.inl ⟨?hwx11q, ?hyx11q⟩) hS ?restx11q
    case h1x11q => (simp only [List.getElem?_toArray, List.getElem?_cons_succ, List.getElem?_cons_zero]; rfl)
    case hsx11q => kernel_rfl
    case hfx11q => kernel_rfl
    case hrx11q => kernel_rfl
    case hQx11q => exact fun _ _ _ h => h
    case hwx11q => rfl
    case hyx11q =>
      intro W hW
      go_simp
      try with_reducible rfl
    simp only [Act.put, List.setIfInBounds_toArray, List.set_cons_succ, List.set_cons_zero]
    refine' wpAnyH_take (i := 12) ?h1x12q ?hsx12q ?hfx12q ?hrx12q ?hQx12q (Or.inl ⟨?hwx12q, ?hyx12q⟩) hS ?restx12q
    case h1x12q => (simp only [List.getElem?_toArray, List.getElem?_cons_succ, List.getElem?_cons_zero]; rfl)
    case hsx12q => kernel_rfl
    case hfx12q => kernel_rfl
    case hrx12q => kernel_rfl
    case hQx12q => exact fun _ _ _ h => h
    case hwx12q => rfl
    case hyx12q =>
      intro W hW
      go_simp
      try with_reducible rfl
    simp only [Act.put, List.setIfInBounds_toArray, List.set_cons_succ, List.set_cons_zero]
    refine wpAnyH_done (by kernel_rfl) ?_ _
    go_wp2_with fail
    go_ret
    exact ⟨rfl, hS.1⟩
end Go.Proofs.Ytdohggpajhkkhaa
