/-
  Contracts of the functions that the statements of package slot go through: a slot as its bytes; the document's slot of any bytes. Condition: the slice reads as bytes.
-/
import Derived.Test.YtplffbpnjnbolaaSlD
namespace Go.Proofs.Ytplffbpnjnbolaa
open Go.RowKit
/-- A part of a row, as a slice. -/
theorem sees_part (W : World) (g : Nat) (t : TypeId) (xs : List Int) (hx : Byt xs) (hg : W.heap[g]? = some (.cells (bcells xs) t (0, 0))) (o n c : Nat) (ho : o + n ≤ xs.length) (hn : n ≠ 0) (hc : n ≤ c) (hm : c ≤ maxLen) :
    Sees W (.slice (some ⟨g, o, none⟩) n c) ((xs.drop o).take n) := by
  have hl := part_len xs o n ho
  refine ⟨(hx.drop o).take n, .inr (.inr ⟨g, o, c, by rw [hl], fun e => hn (by rw [← hl, e]; rfl), by rw [hl]; exact hc, hm, fun i hi => ?_⟩)⟩
  have := part_cell W g t xs hg o n ho i hi
  have hplain : (⟨g, o, none⟩ : Addr).add i = ⟨g, o + i, none⟩ := by unfold Addr.add; split <;> simp_all
  rwa [hplain] at this
set_option maxRecDepth 100000 in
set_option maxHeartbeats 4000000 in
theorem asS (xs : List Int) (hx : Byt xs) (hl : xs.length = 104) (w : World) : Calls Try.prog 28 #[.agg (bcells xs)] w (OwnP w xs) := by
  obtain ⟨p1, p2, p3, h, n1, n2, n3, e1, e2, e3⟩ := part3 xs hl
  have hg := heap_alloc_new w (.cells (bcells xs) 61)
  have hB0 : Below w.heap.size w (w.alloc (.cells (bcells xs) 61)) := (Below.refl _ _).alloc (Nat.le_refl _) _
  have hsz : (w.alloc (.cells (bcells xs) 61)).heap.size = w.heap.size + 1 := by simp
  have s1 := sees_part _ w.heap.size 61 xs hx hg 0 32 32 (by omega) (by omega) (by omega) (by decide)
  rw [e1] at s1
  obtain ⟨x1, c1, w1, r1, o1, g1, b1⟩ := app (own_nil (w.alloc (.cells (bcells xs) 61)) (w.heap.size + 1)) s1 (by rw [n1]; decide) (by rw [hsz]; exact Nat.le_refl _)
  simp only [List.length_nil, Nat.zero_add, List.nil_append, n1] at r1 o1
  have hg1 := (b1.block w.heap.size (by omega)).trans hg
  have s2 := sees_part _ w.heap.size 61 xs hx hg1 32 32 32 (by omega) (by omega) (by omega) (by decide)
  rw [e2] at s2
  obtain ⟨x2, c2, w2, r2, o2, g2, b2⟩ := app o1 s2 (by rw [n1, n2]; decide) (by have := b1.size; omega)
  simp only [n1, n2] at r2 o2
  have hg2 := (b2.block w.heap.size (by omega)).trans hg1
  have s3 := sees_part _ w.heap.size 61 xs hx hg2 64 40 40 (by omega) (by omega) (by omega) (by decide)
  rw [e3] at s3
  obtain ⟨x3, c3, w3, r3, o3, g3, b3⟩ := app o2 s3 (by simp [n1, n2, n3]) (by have := b1.size; have := b2.size; omega)
  simp only [List.length_append, n1, n2, n3] at r3 o3
  rw [← h] at o3
  have R1 := Lib.hid r1
  have R2 := Lib.hid r2
  have R3 := Lib.hid r3
  have O3 := Lib.hid o3
  have BB : Hid (Below w.heap.size w w3) := ((hB0.trans (b1.mono (by omega))).trans (b2.mono (by omega))).trans (b3.mono (by omega))
  clear r1 r2 r3 o1 o2 o3 s1 s2 s3 hg1 hg2 hg g1 g2 g3 b1 b2 b3 hB0 hsz e1 e2 e3 h n1 n2 n3
  generalize bcells xs = C at *
  go_enter Try.func28, Try.ntmps28
  go_wp2_with (first
    | (at_builtin; refine wpList_app rfl (.tmp 4) (.tmp 6) rfl rfl rfl rfl R1.out ?_)
    | (at_builtin; refine wpList_app rfl (.tmp 8) (.tmp 10) rfl rfl rfl rfl R2.out ?_)
    | (at_builtin; refine wpList_app rfl (.tmp 12) (.tmp 14) rfl rfl rfl rfl R3.out ?_))
  go_ret
  refine ⟨x3, c3, by rw [hl]; rfl, ?_, BB.out⟩
  rw [hl]
  obtain ⟨hby, hro⟩ := O3.out
  refine ⟨hby, hro.1, ?_⟩
  rcases hro.2 with h0 | ⟨g, cap, cur, q1, q2, q3⟩
  · exact .inl h0
  · exact .inr ⟨g, cap, cur, q1, by omega, q3⟩
/-- The document's Read. -/
def RefRP (w : World) (xs : List Int) (e : Ending) (w' : World) : Prop :=
  ∃ v, e = .returned (.tuple #[v, .int .i64 (sRe xs)]) ∧ Sees w' v (sRv xs) ∧ Below w.heap.size w w'
set_option maxRecDepth 100000 in
theorem mk104 (w : World) : (Instr.makeSlice 30 (.int .i64 104) (.int .i64 104)).run Try.prog w = .ok (.slice (some ⟨w.heap.size, 0, none⟩) 104 104) (w.alloc (.cells (bcells (zs 104)) 5)) := mkN 104 (by decide) w
theorem refRP_no {w : World} {xs : List Int} {w1 w2 : World} (h : sRe xs = 3) (hw : w2 = w1.alloc (.cells (bcells (zs 104)) 5)) (hb : Below w.heap.size w w1) : RefRP w xs (.returned (.tuple #[.slice (some ⟨w1.heap.size, 0, none⟩) 104 104, .int .i64 3])) w2 := by
  subst hw
  have e2 : sRv xs = zs 104 := by unfold sRv; rw [if_neg (by rw [h]; decide)]
  exact ⟨_, by rw [h], by rw [e2]; exact sees_new w1 _ _ rfl (zs_byt _) (by rw [zs_len]; decide) _ rfl _ (zs_len _).symm, hb.alloc hb.size _⟩
set_option maxRecDepth 100000 in
set_option maxHeartbeats 4000000 in
theorem refR_other (v : Value) (xs : List Int) (hl : xs.length ≠ 512) (w : World) (h : Sees w v xs) : Calls Try.prog 25 #[v] w (RefRP w xs) := by
  obtain ⟨x, cap, rfl, h63⟩ := h.form
  have hne : (xs.length : Int) ≠ 512 := by omega
  have e1 : sRe xs = 3 := by unfold sRe; rw [if_neg (fun h => hl h.1)]
  have E1 := Lib.hid e1
  have hm := mk104
  have HN : Hid (((xs.length : Int) != 512) = true) := by show _ = _; simpa using hne
  clear h hl e1
  go_enter Try.func25, Try.ntmps25
  go_wp2_with fail
  refine wp_region_held_drew (S := fun W => Below w.heap.size w W) (by kernel_rfl) (Below.refl _ _).drew (fun hS => ?_)
  refine' wpAnyH_take (i := 0) ?h1x0a ?hsx0a ?hfx0a ?hrx0a ?hQx0a (Or.inl ⟨?hwx0a, ?hyx0a⟩) hS ?restx0a
  case h1x0a => (simp only [List.getElem?_toArray, List.getElem?_cons_zero]; rfl)
  case hsx0a => kernel_rfl
  case hfx0a => kernel_rfl
  case hrx0a => kernel_rfl
  case hQx0a => exact fun _ _ _ h => h
  case hwx0a => rfl
  case hyx0a =>
    intro W hW
    go_simp
    try with_reducible rfl
  simp only [Act.put, List.setIfInBounds_toArray, List.set_cons_succ, List.set_cons_zero]
  refine' wpAnyH_take (i := 1) ?h1x1a ?hsx1a ?hfx1a ?hrx1a ?hQx1a (Or.inl ⟨?hwx1a, ?hyx1a⟩) hS ?restx1a
  case h1x1a => (simp only [List.getElem?_toArray, List.getElem?_cons_succ, List.getElem?_cons_zero]; rfl)
  case hsx1a => kernel_rfl
  case hfx1a => kernel_rfl
  case hrx1a => kernel_rfl
  case hQx1a => exact fun _ _ _ h => h
  case hwx1a => rfl
  case hyx1a =>
    intro W hW
    go_simp
    try with_reducible rfl
  simp only [Act.put, List.setIfInBounds_toArray, List.set_cons_succ, List.set_cons_zero]
  refine' wpAnyH_take (i := 2) ?h1x2a ?hsx2a ?hfx2a ?hrx2a ?hQx2a (Or.inl ⟨?hwx2a, ?hyx2a⟩) hS ?restx2a
  case h1x2a => (simp only [List.getElem?_toArray, List.getElem?_cons_succ, List.getElem?_cons_zero]; rfl)
  case hsx2a => kernel_rfl
  case hfx2a => kernel_rfl
  case hrx2a => kernel_rfl
  case hQx2a => exact fun _ _ _ h => h
  case hwx2a => rfl
  case hyx2a =>
    intro W hW
    have dd := HN.out
    go_simp
    try with_reducible rfl
  simp only [Act.put, List.setIfInBounds_toArray, List.set_cons_succ, List.set_cons_zero]
  refine' wpAnyH_take (i := 3) ?h1x3a ?hsx3a ?hfx3a ?hrx3a ?hQx3a (Or.inl ⟨?hwx3a, ?hyx3a⟩) hS ?restx3a
  case h1x3a => (simp only [List.getElem?_toArray, List.getElem?_cons_succ, List.getElem?_cons_zero]; rfl)
  case hsx3a => kernel_rfl
  case hfx3a => kernel_rfl
  case hrx3a => kernel_rfl
  case hQx3a => exact fun _ _ _ h => h
  case hwx3a => rfl
  case hyx3a =>
    intro W hW
    go_simp
    try with_reducible rfl
  simp only [Act.put, List.setIfInBounds_toArray, List.set_cons_succ, List.set_cons_zero]
  refine' wpAnyH_take (i := 4) ?h1x4a ?hsx4a ?hfx4a ?hrx4a ?hQx4a (Or.inr ⟨?hwx4a, rfl⟩) hS ?restx4a
  case h1x4a => (simp only [List.getElem?_toArray, List.getElem?_cons_succ, List.getElem?_cons_zero]; rfl)
  case hsx4a => kernel_rfl
  case hfx4a => kernel_rfl
  case hrx4a => kernel_rfl
  case hQx4a => exact fun _ _ _ h => h
  case hwx4a => rfl
  simp only [Act.put, List.setIfInBounds_toArray, List.set_cons_succ, List.set_cons_zero]
  refine' wpAnyH_take (i := 5) ?h1x5a ?hsx5a ?hfx5a ?hrx5a ?hQx5a (Or.inr ⟨?hwx5a, rfl⟩) hS ?restx5a
  case h1x5a => (simp only [List.getElem?_toArray, List.getElem?_cons_succ, List.getElem?_cons_zero]; rfl)
  case hsx5a => kernel_rfl
  case hfx5a => kernel_rfl
  case hrx5a => kernel_rfl
  case hQx5a => exact fun _ _ _ h => h
  case hwx5a => rfl
  simp only [Act.put, List.setIfInBounds_toArray, List.set_cons_succ, List.set_cons_zero]
  refine' wpAnyH_take (i := 6) ?h1x6a ?hsx6a ?hfx6a ?hrx6a ?hQx6a (Or.inr ⟨?hwx6a, rfl⟩) hS ?restx6a
  case h1x6a => (simp only [List.getElem?_toArray, List.getElem?_cons_succ, List.getElem?_cons_zero]; rfl)
  case hsx6a => kernel_rfl
  case hfx6a => kernel_rfl
  case hrx6a => kernel_rfl
  case hQx6a => exact fun _ _ _ h => h
  case hwx6a => rfl
  simp only [Act.put, List.setIfInBounds_toArray, List.set_cons_succ, List.set_cons_zero]
  refine' wpAnyH_take (i := 7) ?h1x7a ?hsx7a ?hfx7a ?hrx7a ?hQx7a (Or.inr ⟨?hwx7a, rfl⟩) hS ?restx7a
  case h1x7a => (simp only [List.getElem?_toArray, List.getElem?_cons_succ, List.getElem?_cons_zero]; rfl)
  case hsx7a => kernel_rfl
  case hfx7a => kernel_rfl
  case hrx7a => kernel_rfl
  case hQx7a => exact fun _ _ _ h => h
  case hwx7a => rfl
  simp only [Act.put, List.setIfInBounds_toArray, List.set_cons_succ, List.set_cons_zero]
  refine' wpAnyH_take (i := 8) ?h1x8a ?hsx8a ?hfx8a ?hrx8a ?hQx8a (Or.inr ⟨?hwx8a, rfl⟩) hS ?restx8a
  case h1x8a => (simp only [List.getElem?_toArray, List.getElem?_cons_succ, List.getElem?_cons_zero]; rfl)
  case hsx8a => kernel_rfl
  case hfx8a => kernel_rfl
  case hrx8a => kernel_rfl
  case hQx8a => exact fun _ _ _ h => h
  case hwx8a => rfl
  simp only [Act.put, List.setIfInBounds_toArray, List.set_cons_succ, List.set_cons_zero]
  refine' wpAnyH_take (i := 9) ?h1x9a ?hsx9a ?hfx9a ?hrx9a ?hQx9a (Or.inr ⟨?hwx9a, rfl⟩) hS ?restx9a
  case h1x9a => (simp only [List.getElem?_toArray, List.getElem?_cons_succ, List.getElem?_cons_zero]; rfl)
  case hsx9a => kernel_rfl
  case hfx9a => kernel_rfl
  case hrx9a => kernel_rfl
  case hQx9a => exact fun _ _ _ h => h
  case hwx9a => rfl
  simp only [Act.put, List.setIfInBounds_toArray, List.set_cons_succ, List.set_cons_zero]
  refine' wpAnyH_take (i := 10) ?h1x10a ?hsx10a ?hfx10a ?hrx10a ?hQx10a (Or.inr ⟨?hwx10a, rfl⟩) hS ?restx10a
  case h1x10a => (simp only [List.getElem?_toArray, List.getElem?_cons_succ, List.getElem?_cons_zero]; rfl)
  case hsx10a => kernel_rfl
  case hfx10a => kernel_rfl
  case hrx10a => kernel_rfl
  case hQx10a => exact fun _ _ _ h => h
  case hwx10a => rfl
  simp only [Act.put, List.setIfInBounds_toArray, List.set_cons_succ, List.set_cons_zero]
  refine' wpAnyH_take (i := 11) ?h1x11a ?hsx11a ?hfx11a ?hrx11a ?hQx11a (Or.inl ⟨?hwx11a, ?hyx11a⟩) hS ?restx11a
  case h1x11a => (simp only [List.getElem?_toArray, List.getElem?_cons_succ, List.getElem?_cons_zero]; rfl)
  case hsx11a => kernel_rfl
  case hfx11a => kernel_rfl
  case hrx11a => kernel_rfl
  case hQx11a => exact fun _ _ _ h => h
  case hwx11a => rfl
  case hyx11a =>
    intro W hW
    go_simp
    try with_reducible rfl
  simp only [Act.put, List.setIfInBounds_toArray, List.set_cons_succ, List.set_cons_zero]
  refine wpAnyH_done (by kernel_rfl) ?_ _
  go_wp2_with fail
  go_ret2
  exact refRP_no (w1 := w.drew) E1.out rfl hS
set_option maxRecDepth 100000 in
set_option maxHeartbeats 4000000 in
theorem refR_full (v : Value) (xs : List Int) (hl : xs.length = 512) (w : World) (h : Sees w v xs) : Calls Try.prog 25 #[v] w (RefRP w xs) := by
  have SE := Lib.hid h
  obtain ⟨hby, ⟨rfl, rfl⟩ | ⟨a, cap, rfl, rfl, _⟩ | ⟨b, o, cap, rfl, h3, h4, h5, h6⟩⟩ := id h
  · simp at hl
  · simp at hl
  unfold maxLen at h5
  have hca : 512 ≤ cap := by omega
  have hm := mk104
  have hsl := sR_len hl
  have SP : Hid (Sees w (.slice (some ⟨b, o + 8, none⟩) 104 (cap - 8)) (sR xs)) := by
    refine ⟨sR_byt hby, .inr (.inr ⟨b, o + 8, cap - 8, by rw [hsl], fun e => by rw [e] at hsl; simp at hsl, by omega, by unfold maxLen; omega, fun i hi => ?_⟩)⟩
    have := part_sees w b o xs h6 8 104 (by omega) i hi
    have hplain : (⟨b, o + 8, none⟩ : Addr).add i = ⟨b, o + 8 + i, none⟩ := by unfold Addr.add; split <;> simp_all
    rwa [hplain] at this
  have SE : Hid (Sees w (.slice (some ⟨b, o, none⟩) 512 cap) xs) := by show Sees _ _ _; rw [← hl]; exact h
  have WR : Hid (∀ W, Below w.heap.size w W → Calls Try.prog 27 #[.slice (some ⟨b, o + 8, none⟩) 104 (cap - 8)] W (OwnP W (sW (sR xs)))) := fun W hW => refW _ _ hsl W (SP.out.below hW)
  have HE := Lib.hid (str_eq (sW (sR xs)) xs (sW_byt _ (sR_byt hby)) hby)
  rw [hl]
  have PYf : Hid (sW (sR xs) = xs → sRe xs = 0 ∧ sRv xs = sR xs) := fun e => by
    have e0 : sRe xs = 0 := by unfold sRe; rw [if_pos ⟨hl, e⟩]
    exact ⟨e0, by unfold sRv; rw [if_pos e0]⟩
  have PNf : Hid (sW (sR xs) ≠ xs → sRe xs = 3) := fun e => by unfold sRe; rw [if_neg (fun h => e h.2)]
  have hc8 : ¬ (cap = 8) := by omega
  have H112 : Hid ((112 : Int) ≤ cap) := by show _ ≤ _; omega
  clear h h3 h4 h6 hby hl hsl
  by_cases hq : sW (sR xs) = xs
  · have hPY := PYf.out hq
    rw [decide_eq_true hq] at HE
    have PY := Lib.hid hPY
    clear hq hPY PNf PYf
    generalize sW (sR xs) = S at *
    go_enter Try.func25, Try.ntmps25
    go_wp2_with fail
    refine wp_region_held_drew (S := fun W => Below w.heap.size w W) (by kernel_rfl) (Below.refl _ _).drew (fun hS => ?_)
    refine' wpAnyH_take (i := 0) ?h1x0b ?hsx0b ?hfx0b ?hrx0b ?hQx0b (Or.inl ⟨?hwx0b, ?hyx0b⟩) hS ?restx0b
    case h1x0b => (simp only [List.getElem?_toArray, List.getElem?_cons_zero]; rfl)
    case hsx0b => kernel_rfl
    case hfx0b => kernel_rfl
    case hrx0b => kernel_rfl
    case hQx0b => exact fun _ _ _ h => h
    case hwx0b => rfl
    case hyx0b =>
      intro W hW
      go_simp
      try with_reducible rfl
    simp only [Act.put, List.setIfInBounds_toArray, List.set_cons_succ, List.set_cons_zero]
    refine' wpAnyH_take (i := 1) ?h1x1b ?hsx1b ?hfx1b ?hrx1b ?hQx1b (Or.inl ⟨?hwx1b, ?hyx1b⟩) hS ?restx1b
    case h1x1b => (simp only [List.getElem?_toArray, List.getElem?_cons_succ, List.getElem?_cons_zero]; rfl)
    case hsx1b => kernel_rfl
    case hfx1b => kernel_rfl
    case hrx1b => kernel_rfl
    case hQx1b => exact fun _ _ _ h => h
    case hwx1b => rfl
    case hyx1b =>
      intro W hW
      go_simp
      try with_reducible rfl
    simp only [Act.put, List.setIfInBounds_toArray, List.set_cons_succ, List.set_cons_zero]
    refine' wpAnyH_take (i := 2) ?h1x2b ?hsx2b ?hfx2b ?hrx2b ?hQx2b (Or.inl ⟨?hwx2b, ?hyx2b⟩) hS ?restx2b
    case h1x2b => (simp only [List.getElem?_toArray, List.getElem?_cons_succ, List.getElem?_cons_zero]; rfl)
    case hsx2b => kernel_rfl
    case hfx2b => kernel_rfl
    case hrx2b => kernel_rfl
    case hQx2b => exact fun _ _ _ h => h
    case hwx2b => rfl
    case hyx2b =>
      intro W hW
      go_simp
      try with_reducible rfl
    simp only [Act.put, List.setIfInBounds_toArray, List.set_cons_succ, List.set_cons_zero]
    refine' wpAnyH_take (i := 3) ?h1x3b ?hsx3b ?hfx3b ?hrx3b ?hQx3b (Or.inl ⟨?hwx3b, ?hyx3b⟩) hS ?restx3b
    case h1x3b => (simp only [List.getElem?_toArray, List.getElem?_cons_succ, List.getElem?_cons_zero]; rfl)
    case hsx3b => kernel_rfl
    case hfx3b => kernel_rfl
    case hrx3b => kernel_rfl
    case hQx3b => exact fun _ _ _ h => h
    case hwx3b => rfl
    case hyx3b =>
      intro W hW
      go_simp
      try with_reducible rfl
    simp only [Act.put, List.setIfInBounds_toArray, List.set_cons_succ, List.set_cons_zero]
    refine' wpAnyH_take (i := 4) ?h1x4b ?hsx4b ?hfx4b ?hrx4b ?hQx4b (Or.inl ⟨?hwx4b, ?hyx4b⟩) hS ?restx4b
    case h1x4b => (simp only [List.getElem?_toArray, List.getElem?_cons_succ, List.getElem?_cons_zero]; rfl)
    case hsx4b => kernel_rfl
    case hfx4b => kernel_rfl
    case hrx4b => kernel_rfl
    case hQx4b => exact fun _ _ _ h => h
    case hwx4b => rfl
    case hyx4b =>
      intro W hW
      go_simp
      try with_reducible rfl
    simp only [Act.put, List.setIfInBounds_toArray, List.set_cons_succ, List.set_cons_zero]
    refine' wpAnyH_take (i := 5) ?h1x5b ?hsx5b ?hfx5b ?hrx5b ?hQx5b (Or.inl ⟨?hwx5b, ?hyx5b⟩) hS ?restx5b
    case h1x5b => (simp only [List.getElem?_toArray, List.getElem?_cons_succ, List.getElem?_cons_zero]; rfl)
    case hsx5b => kernel_rfl
    case hfx5b => kernel_rfl
    case hrx5b => kernel_rfl
    case hQx5b => exact fun _ _ _ h => h
    case hwx5b => rfl
    case hyx5b =>
      intro W hW
      have dd := H112.out
      go_simp
      try with_reducible rfl
    simp only [Act.put, List.setIfInBounds_toArray, List.set_cons_succ, List.set_cons_zero]
    refine' wpAnyH_take (i := 8) ?h1x8b ?hsx8b ?hfx8b ?hrx8b ?hQx8b (Or.inl ⟨?hwx8b, ?hyx8b⟩) hS ?restx8b
    case h1x8b => (simp only [List.getElem?_toArray, List.getElem?_cons_succ, List.getElem?_cons_zero]; rfl)
    case hsx8b => kernel_rfl
    case hfx8b => kernel_rfl
    case hrx8b => kernel_rfl
    case hQx8b => exact fun _ _ _ h => h
    case hwx8b => rfl
    case hyx8b =>
      intro W hW
      go_simp
      try with_reducible rfl
    simp only [Act.put, List.setIfInBounds_toArray, List.set_cons_succ, List.set_cons_zero]
    refine' wpAnyH_take (i := 9) ?h1x9b ?hsx9b ?hfx9b ?hrx9b ?hQx9b (Or.inl ⟨?hwx9b, ?hyx9b⟩) hS ?restx9b
    case h1x9b => (simp only [List.getElem?_toArray, List.getElem?_cons_succ, List.getElem?_cons_zero]; rfl)
    case hsx9b => kernel_rfl
    case hfx9b => kernel_rfl
    case hrx9b => kernel_rfl
    case hQx9b => exact fun _ _ _ h => h
    case hwx9b => rfl
    case hyx9b =>
      intro W hW
      have dd := (SE.out.below hW).str
      go_simp
      try with_reducible rfl
    simp only [Act.put, List.setIfInBounds_toArray, List.set_cons_succ, List.set_cons_zero]
    refine wpAnyH_ready (rs := [6]) (by kernel_rfl) (by simp) ?_
    refine' AllReadyH.cons ?hoc6b (fun K hK => ?stc6b) AllReadyH.nil
    case hoc6b => (simp only [List.getElem?_toArray, List.getElem?_cons_succ, List.getElem?_cons_zero]; rfl)
    go_simp
    refine (WR.out _ hS).mono ?_
    rintro e w1 ⟨x1, c1, rfl, ho, hb⟩
    go_wp2_with fail
    refine hK.out _ _ (hS.trans (hb.mono hS.size)) (fun hHeld => ?_)
    clear hK K
    try simp only [Act.put, List.setIfInBounds_toArray, List.set_cons_succ, List.set_cons_zero]
    have S1 := Lib.hid ho.sees.str
    clear ho
    clear hS hb
    have hS := hHeld
    clear hHeld
    refine wpAnyH_ready (rs := [7]) (by kernel_rfl) (by simp) ?_
    refine' AllReadyH.cons ?hoc7b (fun K hK => ?stc7b) AllReadyH.nil
    case hoc7b => (simp only [List.getElem?_toArray, List.getElem?_cons_succ, List.getElem?_cons_zero]; rfl)
    have dd := S1.out
    go_simp
    refine hK.out _ _ hS (fun hHeld => ?_)
    clear hK K
    try simp only [Act.put, List.setIfInBounds_toArray, List.set_cons_succ, List.set_cons_zero]
    clear hS
    have hS := hHeld
    clear hHeld
    refine' wpAnyH_take (i := 10) ?h1x10b ?hsx10b ?hfx10b ?hrx10b ?hQx10b (Or.inl ⟨?hwx10b, ?hyx10b⟩) hS ?restx10b
    case h1x10b => (simp only [List.getElem?_toArray, List.getElem?_cons_succ, List.getElem?_cons_zero]; rfl)
    case hsx10b => kernel_rfl
    case hfx10b => kernel_rfl
    case hrx10b => kernel_rfl
    case hQx10b => exact fun _ _ _ h => h
    case hwx10b => rfl
    case hyx10b =>
      intro W hW
      have dd := HE.out
      go_simp
      try with_reducible rfl
    simp only [Act.put, List.setIfInBounds_toArray, List.set_cons_succ, List.set_cons_zero]
    refine' wpAnyH_take (i := 11) ?h1x11b ?hsx11b ?hfx11b ?hrx11b ?hQx11b (Or.inl ⟨?hwx11b, ?hyx11b⟩) hS ?restx11b
    case h1x11b => (simp only [List.getElem?_toArray, List.getElem?_cons_succ, List.getElem?_cons_zero]; rfl)
    case hsx11b => kernel_rfl
    case hfx11b => kernel_rfl
    case hrx11b => kernel_rfl
    case hQx11b => exact fun _ _ _ h => h
    case hwx11b => rfl
    case hyx11b =>
      intro W hW
      go_simp
      try with_reducible rfl
    simp only [Act.put, List.setIfInBounds_toArray, List.set_cons_succ, List.set_cons_zero]
    refine wpAnyH_done (by kernel_rfl) ?_ _
    go_wp2_with fail
    go_ret2
    exact ⟨_, by rw [PY.out.1]; rfl, by rw [PY.out.2]; exact SP.out.below hS, hS⟩
  · have hPN := PNf.out hq
    rw [decide_eq_false hq] at HE
    have PN := Lib.hid hPN
    clear hq hPN PYf PNf
    generalize sW (sR xs) = S at *
    go_enter Try.func25, Try.ntmps25
    go_wp2_with fail
    refine wp_region_held_drew (S := fun W => Below w.heap.size w W) (by kernel_rfl) (Below.refl _ _).drew (fun hS => ?_)
    refine' wpAnyH_take (i := 0) ?h1x0c ?hsx0c ?hfx0c ?hrx0c ?hQx0c (Or.inl ⟨?hwx0c, ?hyx0c⟩) hS ?restx0c
    case h1x0c => (simp only [List.getElem?_toArray, List.getElem?_cons_zero]; rfl)
    case hsx0c => kernel_rfl
    case hfx0c => kernel_rfl
    case hrx0c => kernel_rfl
    case hQx0c => exact fun _ _ _ h => h
    case hwx0c => rfl
    case hyx0c =>
      intro W hW
      go_simp
      try with_reducible rfl
    simp only [Act.put, List.setIfInBounds_toArray, List.set_cons_succ, List.set_cons_zero]
    refine' wpAnyH_take (i := 1) ?h1x1c ?hsx1c ?hfx1c ?hrx1c ?hQx1c (Or.inl ⟨?hwx1c, ?hyx1c⟩) hS ?restx1c
    case h1x1c => (simp only [List.getElem?_toArray, List.getElem?_cons_succ, List.getElem?_cons_zero]; rfl)
    case hsx1c => kernel_rfl
    case hfx1c => kernel_rfl
    case hrx1c => kernel_rfl
    case hQx1c => exact fun _ _ _ h => h
    case hwx1c => rfl
    case hyx1c =>
      intro W hW
      go_simp
      try with_reducible rfl
    simp only [Act.put, List.setIfInBounds_toArray, List.set_cons_succ, List.set_cons_zero]
    refine' wpAnyH_take (i := 2) ?h1x2c ?hsx2c ?hfx2c ?hrx2c ?hQx2c (Or.inl ⟨?hwx2c, ?hyx2c⟩) hS ?restx2c
    case h1x2c => (simp only [List.getElem?_toArray, List.getElem?_cons_succ, List.getElem?_cons_zero]; rfl)
    case hsx2c => kernel_rfl
    case hfx2c => kernel_rfl
    case hrx2c => kernel_rfl
    case hQx2c => exact fun _ _ _ h => h
    case hwx2c => rfl
    case hyx2c =>
      intro W hW
      go_simp
      try with_reducible rfl
    simp only [Act.put, List.setIfInBounds_toArray, List.set_cons_succ, List.set_cons_zero]
    refine' wpAnyH_take (i := 3) ?h1x3c ?hsx3c ?hfx3c ?hrx3c ?hQx3c (Or.inl ⟨?hwx3c, ?hyx3c⟩) hS ?restx3c
    case h1x3c => (simp only [List.getElem?_toArray, List.getElem?_cons_succ, List.getElem?_cons_zero]; rfl)
    case hsx3c => kernel_rfl
    case hfx3c => kernel_rfl
    case hrx3c => kernel_rfl
    case hQx3c => exact fun _ _ _ h => h
    case hwx3c => rfl
    case hyx3c =>
      intro W hW
      go_simp
      try with_reducible rfl
    simp only [Act.put, List.setIfInBounds_toArray, List.set_cons_succ, List.set_cons_zero]
    refine' wpAnyH_take (i := 4) ?h1x4c ?hsx4c ?hfx4c ?hrx4c ?hQx4c (Or.inl ⟨?hwx4c, ?hyx4c⟩) hS ?restx4c
    case h1x4c => (simp only [List.getElem?_toArray, List.getElem?_cons_succ, List.getElem?_cons_zero]; rfl)
    case hsx4c => kernel_rfl
    case hfx4c => kernel_rfl
    case hrx4c => kernel_rfl
    case hQx4c => exact fun _ _ _ h => h
    case hwx4c => rfl
    case hyx4c =>
      intro W hW
      go_simp
      try with_reducible rfl
    simp only [Act.put, List.setIfInBounds_toArray, List.set_cons_succ, List.set_cons_zero]
    refine' wpAnyH_take (i := 5) ?h1x5c ?hsx5c ?hfx5c ?hrx5c ?hQx5c (Or.inl ⟨?hwx5c, ?hyx5c⟩) hS ?restx5c
    case h1x5c => (simp only [List.getElem?_toArray, List.getElem?_cons_succ, List.getElem?_cons_zero]; rfl)
    case hsx5c => kernel_rfl
    case hfx5c => kernel_rfl
    case hrx5c => kernel_rfl
    case hQx5c => exact fun _ _ _ h => h
    case hwx5c => rfl
    case hyx5c =>
      intro W hW
      have dd := H112.out
      go_simp
      try with_reducible rfl
    simp only [Act.put, List.setIfInBounds_toArray, List.set_cons_succ, List.set_cons_zero]
    refine' wpAnyH_take (i := 8) ?h1x8c ?hsx8c ?hfx8c ?hrx8c ?hQx8c (Or.inl ⟨?hwx8c, ?hyx8c⟩) hS ?restx8c
    case h1x8c => (simp only [List.getElem?_toArray, List.getElem?_cons_succ, List.getElem?_cons_zero]; rfl)
    case hsx8c => kernel_rfl
    case hfx8c => kernel_rfl
    case hrx8c => kernel_rfl
    case hQx8c => exact fun _ _ _ h => h
    case hwx8c => rfl
    case hyx8c =>
      intro W hW
      go_simp
      try with_reducible rfl
    simp only [Act.put, List.setIfInBounds_toArray, List.set_cons_succ, List.set_cons_zero]
    refine' wpAnyH_take (i := 9) ?h1x9c ?hsx9c ?hfx9c ?hrx9c ?hQx9c (Or.inl ⟨?hwx9c, ?hyx9c⟩) hS ?restx9c
    case h1x9c => (simp only [List.getElem?_toArray, List.getElem?_cons_succ, List.getElem?_cons_zero]; rfl)
    case hsx9c => kernel_rfl
    case hfx9c => kernel_rfl
    case hrx9c => kernel_rfl
    case hQx9c => exact fun _ _ _ h => h
    case hwx9c => rfl
    case hyx9c =>
      intro W hW
      have dd := (SE.out.below hW).str
      go_simp
      try with_reducible rfl
    simp only [Act.put, List.setIfInBounds_toArray, List.set_cons_succ, List.set_cons_zero]
    refine wpAnyH_ready (rs := [6]) (by kernel_rfl) (by simp) ?_
    refine' AllReadyH.cons ?hoc6c (fun K hK => ?stc6c) AllReadyH.nil
    case hoc6c => (simp only [List.getElem?_toArray, List.getElem?_cons_succ, List.getElem?_cons_zero]; rfl)
    go_simp
    refine (WR.out _ hS).mono ?_
    rintro e w1 ⟨x1, c1, rfl, ho, hb⟩
    go_wp2_with fail
    refine hK.out _ _ (hS.trans (hb.mono hS.size)) (fun hHeld => ?_)
    clear hK K
    try simp only [Act.put, List.setIfInBounds_toArray, List.set_cons_succ, List.set_cons_zero]
    have S1 := Lib.hid ho.sees.str
    clear ho
    clear hS hb
    have hS := hHeld
    clear hHeld
    refine wpAnyH_ready (rs := [7]) (by kernel_rfl) (by simp) ?_
    refine' AllReadyH.cons ?hoc7c (fun K hK => ?stc7c) AllReadyH.nil
    case hoc7c => (simp only [List.getElem?_toArray, List.getElem?_cons_succ, List.getElem?_cons_zero]; rfl)
    have dd := S1.out
    go_simp
    refine hK.out _ _ hS (fun hHeld => ?_)
    clear hK K
    try simp only [Act.put, List.setIfInBounds_toArray, List.set_cons_succ, List.set_cons_zero]
    clear hS
    have hS := hHeld
    clear hHeld
    refine' wpAnyH_take (i := 10) ?h1x10c ?hsx10c ?hfx10c ?hrx10c ?hQx10c (Or.inl ⟨?hwx10c, ?hyx10c⟩) hS ?restx10c
    case h1x10c => (simp only [List.getElem?_toArray, List.getElem?_cons_succ, List.getElem?_cons_zero]; rfl)
    case hsx10c => kernel_rfl
    case hfx10c => kernel_rfl
    case hrx10c => kernel_rfl
    case hQx10c => exact fun _ _ _ h => h
    case hwx10c => rfl
    case hyx10c =>
      intro W hW
      have dd := HE.out
      go_simp
      try with_reducible rfl
    simp only [Act.put, List.setIfInBounds_toArray, List.set_cons_succ, List.set_cons_zero]
    refine' wpAnyH_take (i := 11) ?h1x11c ?hsx11c ?hfx11c ?hrx11c ?hQx11c (Or.inl ⟨?hwx11c, ?hyx11c⟩) hS ?restx11c
    case h1x11c => (simp only [List.getElem?_toArray, List.getElem?_cons_succ, List.getElem?_cons_zero]; rfl)
    case hsx11c => kernel_rfl
    case hfx11c => kernel_rfl
    case hrx11c => kernel_rfl
    case hQx11c => exact fun _ _ _ h => h
    case hwx11c => rfl
    case hyx11c =>
      intro W hW
      go_simp
      try with_reducible rfl
    simp only [Act.put, List.setIfInBounds_toArray, List.set_cons_succ, List.set_cons_zero]
    refine wpAnyH_done (by kernel_rfl) ?_ _
    go_wp2_with fail
    go_ret2
    exact refRP_no PN.out rfl hS
theorem refR (v : Value) (xs : List Int) (w : World) (h : Sees w v xs) : Calls Try.prog 25 #[v] w (RefRP w xs) := by
  by_cases hl : xs.length = 512
  · exact refR_full v xs hl w h
  · exact refR_other v xs hl w h
end Go.Proofs.Ytplffbpnjnbolaa
