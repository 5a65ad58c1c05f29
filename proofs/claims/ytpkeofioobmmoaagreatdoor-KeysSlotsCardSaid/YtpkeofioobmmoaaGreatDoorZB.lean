/-
  Contracts of the document's own Make and Open of package casemateref21. Condition: none.
-/
import Derived.Test.YtpkeofioobmmoaaGreatDoorK1
import Derived.Test.YtpkeofioobmmoaaGreatDoorAeRefP
import Derived.Test.YtpkeofioobmmoaaGreatDoorKO
import Derived.Test.YtpkeofioobmmoaaGreatDoorAeWrV
namespace Go.Proofs.YtpkeofioobmmoaaGreatDoor
open Go.RowKit Go.Proofs.YtpkeofioobmmoaaGreatDoor.ae
theorem sees_ae {w : World} {v : Value} {l : List Nat} (hb : ae.Byt l) (h : sh.Sees w v (zl l)) : ae.Sees w v l := by
  obtain ⟨h1, ⟨rfl, h2⟩ | ⟨a, cap, rfl, h2, h3⟩ | ⟨b, o, cap, rfl, h3, h4, h5, h6⟩⟩ := h
  · have : l = [] := by have := congrArg List.length h2; rw [zl_len] at this; exact List.length_eq_zero_iff.1 this
    exact ⟨hb, .inl ⟨rfl, this⟩⟩
  · have : l = [] := by have := congrArg List.length h2; rw [zl_len] at this; exact List.length_eq_zero_iff.1 this
    exact ⟨hb, .inr (.inl ⟨a, cap, rfl, this, h3⟩)⟩
  · refine ⟨hb, .inr (.inr ⟨b, o, cap, by rw [zl_len], fun e => h3 (by rw [e]; rfl), by rw [zl_len] at h4; exact h4, h5, fun i hi => ?_⟩)⟩
    rw [h6 i (by rw [zl_len]; exact hi), nth_zl]
def TextP (w : World) (n : Nat) (xs : List Nat) (e : Ending) (w' : World) : Prop := ∃ q c, e = .returned (.slice q n c) ∧ ae.Sees w' (.slice q n c) xs ∧ Below w.heap.size w w'
theorem derN_tstr (key nm : List Nat) (num : Nat) (hk : ae.Byt key) : zl (derN key nm num) = sh.tstr (zl key) (zl nm ++ sh.be 8 num) 1 := by
  rw [derN_one key nm num hk, zl_toN (sh.tstr_byt _ _ _)]
theorem refDer (vk : Value) (key nm : List Nat) (num : Nat) (hnum : num ≤ 18446744073709551615) (w : World) (hk : ae.Sees w vk key) (lk : key.length ≤ 1000) (hv : ae.Byt nm) (ln : nm.length ≤ 900) (s : ByteArray) (hs : s = ae.strN nm) :
    Calls Tryz.prog 11 #[vk, .string s, .int .u64 num] w (TextP w 32 (derN key nm num)) := by
  have h := sh.deriveD vk (zl key) (zl nm) num (by omega) w (sees_sh hk) (byt_zl hv) (by rw [zl_len]; exact lk) (by rw [zl_len]; exact ln)
  have e := (derN_tstr key nm num hk.1).symm
  rw [hs]
  refine h.mono ?_
  rintro e' w' ⟨x, cap, rfl, ho, hb⟩
  have l := derN_bts nm num hk.1
  rw [e] at ho ⊢
  have hs2 := sees_ae l.2 ho.sees
  rw [zl_len, l.1] at hs2 ⊢
  exact ⟨x, cap, rfl, hs2, hb⟩
theorem refMac (vk vb : Value) (k b : List Nat) (w : World) (hk : ae.Sees w vk k) (hb : ae.Sees w vb b) (lk : k.length ≤ 1000) (lb : b.length ≤ 1000) :
    Calls Tryz.prog 36 #[vk, vb] w (TextP w 32 (macN k b)) := by
  refine (sh.macD vk vb (zl k) (zl b) w (sees_sh hk) (sees_sh hb) (by rw [zl_len]; omega) (by rw [zl_len]; omega)).mono ?_
  rintro e' w' ⟨x, cap, rfl, ho, hb2⟩
  have l := macN_bts b hk.1
  rw [← zl_macN] at ho ⊢
  have hs2 := sees_ae l.2 ho.sees
  rw [zl_len, l.1] at hs2 ⊢
  exact ⟨x, cap, rfl, hs2, hb2⟩
set_option maxRecDepth 100000 in
set_option maxHeartbeats 1000000 in
theorem refDerived (vo vs : Value) (outer salt nm : List Nat) (w : World) (ho : ae.Sees w vo outer) (hs : ae.Sees w vs salt) (lo : outer.length ≤ 1000) (ls : salt.length ≤ 1000) (hv : ae.Byt nm) (ln : nm.length ≤ 900) (s : ByteArray) (hs2 : s = ae.strN nm) :
    Calls Tryz.prog 17 #[vo, vs, .string s] w (TextP w 32 (derN (macN salt outer) nm 0)) := by
  have M := Lib.hid (refMac vs vo salt outer w hs ho ls lo)
  have D : Hid (∀ (W : World) (q : Option Addr) (c : Nat), ae.Sees W (.slice q 32 c) (macN salt outer) → Calls Tryz.prog 11 #[.slice q 32 c, .string s, .int .u64 0] W (TextP W 32 (derN (macN salt outer) nm 0))) := fun W q c h => refDer _ _ nm 0 (by decide) W h (by rw [(macN_bts outer hs.1).1]; decide) hv ln s hs2
  clear ho hs lo ls hv ln hs2
  generalize derN (macN salt outer) nm 0 = J at D ⊢
  generalize macN salt outer = K at M D
  go_enter Tryz.func17, Tryz.ntmps17
  go_wp2_with fail
  refine M.out.mono ?_
  rintro e w1 ⟨q1, c1, rfl, h1, hb1⟩
  have S1 := Lib.hid h1
  have B1 := Lib.hid hb1
  clear h1 hb1
  go_wp2_with fail
  refine (D.out _ _ _ S1.out).mono ?_
  rintro e w2 ⟨q2, c2, rfl, h2, hb2⟩
  have S2 := Lib.hid h2
  have B2 := Lib.hid (B1.out.trans (hb2.mono B1.out.size))
  clear h2 hb2
  go_wp2_with fail
  go_ret
  exact ⟨q2, c2, rfl, S2.out, B2.out⟩
/-- A part of a text. -/
theorem sees_sub {W : World} {b o n cap c : Nat} {A B C : List Nat} (h : ae.Sees W (.slice (some ⟨b, o, none⟩) n cap) (A ++ B ++ C)) (hB : B ≠ []) (hc : B.length ≤ c) (hm : c ≤ maxLen) : ae.Sees W (.slice (some ⟨b, o + A.length, none⟩) B.length c) B := by
  have hl : 0 < B.length := List.length_pos_iff.2 hB
  obtain ⟨b', o', he, _, _, _, hcell⟩ := h.cells (fun e => hB (List.append_eq_nil_iff.1 (List.append_eq_nil_iff.1 e).1).2)
  simp only [Option.some.injEq, Addr.mk.injEq] at he
  obtain ⟨rfl, rfl, _⟩ := he
  refine ⟨fun x hx => h.1 x (by simp [hx]), .inr (.inr ⟨b, o + A.length, c, rfl, hB, hc, hm, fun i hi => ?_⟩)⟩
  rw [Nat.add_assoc, hcell (A.length + i) (by simp; omega)]
  have e : at_ (A ++ B ++ C) (A.length + i) = at_ B i := by
    unfold at_ List.getD
    rw [List.append_assoc, List.getElem?_append_right (by omega), Nat.add_sub_cancel_left, List.getElem?_append_left hi]
  rw [e]
theorem sl_head (b o n cap j : Nat) (hj : j ≤ cap) (W : World) : (Instr.slice 31 (.slice (some ⟨b, o, none⟩) n cap) none (some (.int .i64 j)) none).run Tryz.prog W = .ok (.slice (some ⟨b, o, none⟩) j cap) W := by
  rw [run_slice_h W 31 (some ⟨b, o, none⟩) n cap (by kernel_rfl) .i64 j (by omega) (by omega), size5']
  simp [Result.andThen, sliced, Addr.add]
set_option maxRecDepth 100000 in
set_option maxHeartbeats 4000000 in
theorem refCheck (outer A B C : List Nat) (lo : outer.length ≤ 1000) (hA : A.length = 32) (hB : B.length = 32) (vo : Value) (b o cap : Nat) (w : World) (hvo : ae.Sees w vo outer) (hs : ae.Sees w (.slice (some ⟨b, o, none⟩) 104 cap) (A ++ B ++ C)) (hcap : 104 ≤ cap) (hcm : cap ≤ maxLen) :
    Calls Tryz.prog 15 #[vo, .slice (some ⟨b, o, none⟩) 104 cap] w fun e w' => e = .returned (.bool (decide (chk outer A = B))) ∧ Below w.heap.size w w' := by
  have hA2 : ae.Sees w (.slice (some ⟨b, o, none⟩) 32 cap) A := by
    have := sees_sub (A := []) (B := A) (C := B ++ C) (c := cap) (by rw [List.nil_append, ← List.append_assoc]; exact hs) (fun e => by rw [e] at hA; simp at hA) (by omega) hcm
    rw [hA] at this
    exact this
  have hB2 : ae.Sees w (.slice (some ⟨b, o + 32, none⟩) 32 (cap - 32)) B := by
    have := sees_sub (A := A) (B := B) (C := C) (c := cap - 32) hs (fun e => by rw [e] at hB; simp at hB) (by omega) (by omega)
    rw [hA, hB] at this
    exact this
  have s1 := sl_head b o 104 cap 32 (by omega)
  have s2 := sl_part b o 104 cap 32 64 (by omega) (by omega) hcap
  have PA := Lib.hid hA2
  have PB := Lib.hid hB2
  have PO := Lib.hid hvo
  have LA := Lib.hid hA
  have LO := Lib.hid lo
  have EQ : Hid (((strN (chk outer A)).toList == (strN B).toList) = decide (chk outer A = B)) := strN_eq (chk_bts hA2.1).2 hB2.1
  have D : Hid (∀ W : World, ae.Sees W vo outer → ae.Sees W (.slice (some ⟨b, o, none⟩) 32 cap) A → Calls Tryz.prog 17 #[vo, .slice (some ⟨b, o, none⟩) 32 cap, .string ⟨#[99, 104, 101, 99, 107]⟩] W (TextP W 32 (chk outer A))) := fun W h1 h2 => refDerived _ _ outer A nCheck W h1 h2 LO.out (by rw [LA.out]; decide) nCheck_byt (by decide) _ (by kernel_rfl)
  obtain ⟨yy, hyy⟩ : ∃ yy, yy = decide (chk outer A = B) := ⟨_, rfl⟩
  rw [← hyy] at EQ ⊢
  have t1 : (32 : Int) ≤ (cap : Int) := by omega
  have t2 : (64 : Int) ≤ (cap : Int) := by omega
  have t3 : ¬ cap = 32 := by omega
  clear hA hB hvo hs hcap hcm hA2 hB2 lo hyy
  generalize chk outer A = K at EQ D
  go_enter Tryz.func15, Tryz.ntmps15
  go_wp2_with fail
  refine wp_region_held_drew (S := fun W => Below w.heap.size w W) (by kernel_rfl) ((Below.refl _ _).drew) (fun hS => ?_)
  have hb0 : Below w.heap.size w w.drew := (Below.refl _ _).drew
  clear hb0 
  generalize w.drew = Wcs at hS  ⊢
  refine' wpAnyH_take (i := 0) ?h1x0c ?hsx0c ?hfx0c ?hrx0c ?hQx0c (Or.inl ⟨?hwx0c, ?hyx0c⟩) hS ?restx0c
  case h1x0c => (simp only [List.getElem?_toArray, List.getElem?_cons_zero]; rfl)
  case hsx0c | hfx0c | hrx0c => kernel_rfl
  case hQx0c => exact fun _ _ _ h => h
  case hwx0c => rfl
  case hyx0c =>
    intro W hW
    go_simp
    try with_reducible rfl
  simp only [Act.put, List.setIfInBounds_toArray, List.set_cons_succ, List.set_cons_zero]
  refine' wpAnyH_take (i := 1) ?h1x1c ?hsx1c ?hfx1c ?hrx1c ?hQx1c (Or.inl ⟨?hwx1c, ?hyx1c⟩) hS ?restx1c
  case h1x1c => (simp only [List.getElem?_toArray, List.getElem?_cons_succ, List.getElem?_cons_zero]; rfl)
  case hsx1c | hfx1c | hrx1c => kernel_rfl
  case hQx1c => exact fun _ _ _ h => h
  case hwx1c => rfl
  case hyx1c =>
    intro W hW
    go_simp
    try with_reducible rfl
  simp only [Act.put, List.setIfInBounds_toArray, List.set_cons_succ, List.set_cons_zero]
  refine' wpAnyH_take (i := 5) ?h1x5c ?hsx5c ?hfx5c ?hrx5c ?hQx5c (Or.inl ⟨?hwx5c, ?hyx5c⟩) hS ?restx5c
  case h1x5c => (simp only [List.getElem?_toArray, List.getElem?_cons_succ, List.getElem?_cons_zero]; rfl)
  case hsx5c | hfx5c | hrx5c => kernel_rfl
  case hQx5c => exact fun _ _ _ h => h
  case hwx5c => rfl
  case hyx5c =>
    intro W hW
    go_simp
    try with_reducible rfl
  simp only [Act.put, List.setIfInBounds_toArray, List.set_cons_succ, List.set_cons_zero]
  refine' wpAnyH_take (i := 2) ?h1x2c ?hsx2c ?hfx2c ?hrx2c ?hQx2c (Or.inl ⟨?hwx2c, ?hyx2c⟩) hS ?restx2c
  case h1x2c => (simp only [List.getElem?_toArray, List.getElem?_cons_succ, List.getElem?_cons_zero]; rfl)
  case hsx2c | hfx2c | hrx2c => kernel_rfl
  case hQx2c => exact fun _ _ _ h => h
  case hwx2c => rfl
  case hyx2c =>
    intro W hW
    have s1W := s1 W
    go_simp
    try with_reducible rfl
  simp only [Act.put, List.setIfInBounds_toArray, List.set_cons_succ, List.set_cons_zero]
  refine' wpAnyH_take (i := 6) ?h1x6c ?hsx6c ?hfx6c ?hrx6c ?hQx6c (Or.inl ⟨?hwx6c, ?hyx6c⟩) hS ?restx6c
  case h1x6c => (simp only [List.getElem?_toArray, List.getElem?_cons_succ, List.getElem?_cons_zero]; rfl)
  case hsx6c | hfx6c | hrx6c => kernel_rfl
  case hQx6c => exact fun _ _ _ h => h
  case hwx6c => rfl
  case hyx6c =>
    intro W hW
    have s2W := s2 W
    go_simp
    try with_reducible rfl
  simp only [Act.put, List.setIfInBounds_toArray, List.set_cons_succ, List.set_cons_zero]
  refine' wpAnyH_take (i := 7) ?h1x7c ?hsx7c ?hfx7c ?hrx7c ?hQx7c (Or.inl ⟨?hwx7c, ?hyx7c⟩) hS ?restx7c
  case h1x7c => (simp only [List.getElem?_toArray, List.getElem?_cons_succ, List.getElem?_cons_zero]; rfl)
  case hsx7c | hfx7c | hrx7c => kernel_rfl
  case hQx7c => exact fun _ _ _ h => h
  case hwx7c => rfl
  case hyx7c =>
    intro W hW
    have k2 := (PB.out.below hW).str
    go_simp
    try with_reducible rfl
  simp only [Act.put, List.setIfInBounds_toArray, List.set_cons_succ, List.set_cons_zero]
  refine wpAnyH_ready (rs := [3]) (by kernel_rfl) (by simp) ?_
  refine' (AllReadyH.cons ?hoc3c (fun K hK => ?stc3c) AllReadyH.nil)
  case hoc3c => (simp only [List.getElem?_toArray, List.getElem?_cons_succ, List.getElem?_cons_zero]; rfl)
  go_simp
  refine (D.out Wcs (PO.out.below hS) (PA.out.below hS)).mono ?_
  rintro e Wcx3 ⟨q1, c1, rfl, hs, hb⟩
  have S1 := Lib.hid hs
  clear hs
  go_wp2_with fail
  refine hK.out _ _ (hS.trans (hb.mono hS.size)) (fun hHeld => ?_)
  clear hK K
  try simp only [Act.put, List.setIfInBounds_toArray, List.set_cons_succ, List.set_cons_zero]
  clear hS
  have hS := hHeld
  clear hHeld
  clear hb
  refine wpAnyH_ready (rs := [4]) (by kernel_rfl) (by simp) ?_
  refine' (AllReadyH.cons ?hoc4cx3 (fun K hK => ?stc4cx3) AllReadyH.nil)
  case hoc4cx3 => (simp only [List.getElem?_toArray, List.getElem?_cons_succ, List.getElem?_cons_zero]; rfl)
  have k1 := S1.out.str
  go_simp
  refine hK.out _ _ hS (fun hHeld => ?_)
  clear hK K
  try simp only [Act.put, List.setIfInBounds_toArray, List.set_cons_succ, List.set_cons_zero]
  clear hS
  have hS := hHeld
  clear hHeld
  refine' wpAnyH_take (i := 8) ?h1x8cx3x4 ?hsx8cx3x4 ?hfx8cx3x4 ?hrx8cx3x4 ?hQx8cx3x4 (Or.inl ⟨?hwx8cx3x4, ?hyx8cx3x4⟩) hS ?restx8cx3x4
  case h1x8cx3x4 => (simp only [List.getElem?_toArray, List.getElem?_cons_succ, List.getElem?_cons_zero]; rfl)
  case hsx8cx3x4 | hfx8cx3x4 | hrx8cx3x4 => kernel_rfl
  case hQx8cx3x4 => exact fun _ _ _ h => h
  case hwx8cx3x4 => rfl
  case hyx8cx3x4 =>
    intro W hW
    go_simp
    try with_reducible rfl
  simp only [Act.put, List.setIfInBounds_toArray, List.set_cons_succ, List.set_cons_zero]
  refine' wpAnyH_take (i := 9) ?h1x9cx3x4 ?hsx9cx3x4 ?hfx9cx3x4 ?hrx9cx3x4 ?hQx9cx3x4 (Or.inl ⟨?hwx9cx3x4, ?hyx9cx3x4⟩) hS ?restx9cx3x4
  case h1x9cx3x4 => (simp only [List.getElem?_toArray, List.getElem?_cons_succ, List.getElem?_cons_zero]; rfl)
  case hsx9cx3x4 | hfx9cx3x4 | hrx9cx3x4 => kernel_rfl
  case hQx9cx3x4 => exact fun _ _ _ h => h
  case hwx9cx3x4 => rfl
  case hyx9cx3x4 =>
    intro W hW
    go_simp
    try with_reducible rfl
  simp only [Act.put, List.setIfInBounds_toArray, List.set_cons_succ, List.set_cons_zero]
  refine wpAnyH_done (by kernel_rfl) ?_ _
  have B3 := Lib.hid hS
  have e1 := EQ.out
  clear hS
  go_wp2_with fail
  go_ret
  exact ⟨by rw [e1]; rfl, B3.out⟩
set_option maxRecDepth 100000 in
set_option maxHeartbeats 4000000 in
theorem asK (A B C : List Nat) (hA : ae.Bts 32 A) (hB : ae.Bts 32 B) (hC : ae.Bts 40 C) (w : World) : Calls Tryz.prog 6 #[.agg (ncells (A ++ B ++ C))] w (TextP w 104 (A ++ B ++ C)) := by
  have hg := heap_alloc_new w (.cells (ncells (A ++ B ++ C)) 26)
  have hB0 : Below w.heap.size w (w.alloc (.cells (ncells (A ++ B ++ C)) 26)) := (Below.refl _ _).alloc (Nat.le_refl _) _
  have hsz : (w.alloc (.cells (ncells (A ++ B ++ C)) 26)).heap.size = w.heap.size + 1 := by simp
  have hl : (A ++ B ++ C).length = 104 := by simp [hA.1, hB.1, hC.1]
  have hbt : ae.Byt (A ++ B ++ C) := ae.Byt.append (ae.Byt.append hA.2 hB.2) hC.2
  have full : ∀ W : World, W.heap[w.heap.size]? = some (.cells (ncells (A ++ B ++ C)) 26 (0, 0)) → ae.Sees W (.slice (some ⟨w.heap.size, 0, none⟩) 104 104) (A ++ B ++ C) := fun W h => sees_row W _ _ hbt (by rw [hl]; decide) h 104 hl.symm
  have ne : ∀ (X : List Nat) (n : Nat), X.length = n → 0 < n → X ≠ [] := fun X n h h0 e => by rw [e] at h; simp at h; omega
  have s1 := sees_sub (A := []) (B := A) (C := B ++ C) (c := 32) (by rw [List.nil_append, ← List.append_assoc]; exact full _ hg) (ne A 32 hA.1 (by decide)) (by rw [hA.1]; decide) (by decide)
  obtain ⟨x1, c1, w1, r1, o1, g1, b1⟩ := app (own_nil (w.alloc (.cells (ncells (A ++ B ++ C)) 26)) (w.heap.size + 1)) s1 (by rw [hA.1]; decide) (by rw [hsz]; exact Nat.le_refl _)
  simp only [List.length_nil, Nat.zero_add, List.nil_append, hA.1] at r1 o1
  have hg1 := (b1.block w.heap.size (by omega)).trans hg
  have s2 := sees_sub (A := A) (B := B) (C := C) (c := 32) (full _ hg1) (ne B 32 hB.1 (by decide)) (by rw [hB.1]; decide) (by decide)
  obtain ⟨x2, c2, w2, r2, o2, g2, b2⟩ := app o1 s2 (by rw [hA.1, hB.1]; decide) (by have := b1.size; omega)
  simp only [Nat.zero_add, hA.1, hB.1] at r2 o2
  have hg2 := (b2.block w.heap.size (by omega)).trans hg1
  have s3 := sees_sub (A := A ++ B) (B := C) (C := []) (c := 40) (by rw [List.append_nil]; exact full _ hg2) (ne C 40 hC.1 (by decide)) (by rw [hC.1]; decide) (by decide)
  obtain ⟨x3, c3, w3, r3, o3, g3, b3⟩ := app o2 s3 (by simp [hA.1, hB.1, hC.1]) (by have := b1.size; have := b2.size; omega)
  simp only [Nat.zero_add, List.length_append, hA.1, hB.1, hC.1] at r3 o3
  have R1 := Lib.hid r1
  have R2 := Lib.hid r2
  have R3 := Lib.hid r3
  have O3 := Lib.hid o3.sees
  have BB : Hid (Below w.heap.size w w3) := ((hB0.trans (b1.mono (by omega))).trans (b2.mono (by omega))).trans (b3.mono (by omega))
  clear r1 r2 r3 o1 o2 o3 s1 s2 s3 hg1 hg2 hg g1 g2 g3 b1 b2 b3 hB0 hsz hl hbt full ne hA hB hC
  generalize A ++ B ++ C = L at *
  generalize ncells L = CC at *
  go_enter Tryz.func6, Tryz.ntmps6
  go_wp2_with (first
    | (at_builtin; refine wpList_app rfl (.tmp 4) (.tmp 6) rfl rfl rfl rfl R1.out ?_)
    | (at_builtin; refine wpList_app rfl (.tmp 8) (.tmp 10) rfl rfl rfl rfl R2.out ?_)
    | (at_builtin; refine wpList_app rfl (.tmp 12) (.tmp 14) rfl rfl rfl rfl R3.out ?_))
  go_ret
  exact ⟨x3, c3, rfl, O3.out, BB.out⟩
open Go.RowKit Go.Proofs.YtpkeofioobmmoaaGreatDoor.ae
theorem derC {outer salt : List Nat} {x z : Option Addr} {cx cz : Nat} (ho : outer.length = 32) (hs : salt.length = 32) (W : World) (h1 : ae.Sees W (.slice x 32 cx) outer) (h2 : ae.Sees W (.slice z 32 cz) salt) : Calls Tryz.prog 17 #[.slice x 32 cx, .slice z 32 cz, .string ⟨#[99, 104, 101, 99, 107]⟩] W (TextP W 32 (chk outer salt)) :=
  refDerived _ _ outer salt nCheck W h1 h2 (by rw [ho]; decide) (by rw [hs]; decide) nCheck_byt (by decide) _ (by kernel_rfl)
theorem derW {outer salt : List Nat} {x z : Option Addr} {cx cz : Nat} (ho : outer.length = 32) (hs : salt.length = 32) (W : World) (h1 : ae.Sees W (.slice x 32 cx) outer) (h2 : ae.Sees W (.slice z 32 cz) salt) : Calls Tryz.prog 17 #[.slice x 32 cx, .slice z 32 cz, .string ⟨#[119, 114, 97, 112]⟩] W (TextP W 32 (wrk outer salt)) :=
  refDerived _ _ outer salt nWrap W h1 h2 (by rw [ho]; decide) (by rw [hs]; decide) nWrap_byt (by decide) _ (by kernel_rfl)
set_option maxRecDepth 100000 in
set_option maxHeartbeats 4000000 in
theorem refMake (outer master salt : List Nat) (ho : ae.Bts 32 outer) (hm : ae.Bts 32 master) (hs : ae.Bts 32 salt) (x y z : Option Addr) (cx cy cz : Nat) (w : World) (sx : ae.Sees w (.slice x 32 cx) outer) (sy : ae.Sees w (.slice y 32 cy) master) (sz : ae.Sees w (.slice z 32 cz) salt) :
    Calls Tryz.prog 9 #[.slice x 32 cx, .slice y 32 cy, .slice z 32 cz] w (TextP w 104 (slotN outer master salt)) := by
  have DC : Hid (∀ W : World, ae.Sees W (.slice x 32 cx) outer → ae.Sees W (.slice z 32 cz) salt → Calls Tryz.prog 17 #[.slice x 32 cx, .slice z 32 cz, .string ⟨#[99, 104, 101, 99, 107]⟩] W (TextP W 32 (chk outer salt))) := fun W h1 h2 => derC ho.1 hs.1 W h1 h2
  have DW : Hid (∀ W : World, ae.Sees W (.slice x 32 cx) outer → ae.Sees W (.slice z 32 cz) salt → Calls Tryz.prog 17 #[.slice x 32 cx, .slice z 32 cz, .string ⟨#[119, 114, 97, 112]⟩] W (TextP W 32 (wrk outer salt))) := fun W h1 h2 => derW ho.1 hs.1 W h1 h2
  have WR : Hid (∀ (W : World) (q : Option Addr) (c : Nat), ae.Sees W (.slice q 32 c) (wrk outer salt) → ae.Sees W (.slice y 32 cy) master → Calls Tryz.prog 20 #[.slice q 32 c, .slice y 32 cy] W (WrpP W (wrp (wrk outer salt) master 4))) := fun W q c h1 h2 => by
    have hk := wrk_bts (outer := outer) hs.2
    obtain ⟨kb, ko, rfl, h3, h4, h5, h6⟩ := h1.cells (fun e => by have := hk.1; rw [e] at this; simp at this)
    exact refWrap (wrk outer salt) master hk kb ko c 4 y 32 cy W (fun i hi => h6 i (by rw [hk.1]; exact hi)) (by omega) h5 h2 hm.1.symm rfl (by decide) (by decide)
  have LC := Lib.hid (chk_bts (outer := outer) hs.2).1
  have LW := Lib.hid (wrp_bts (wrk_bts (outer := outer) hs.2) hm).1
  have LS := Lib.hid hs.1
  obtain ⟨x1, c1, w1, r1, o1, _, b1⟩ := app (own_nil w w.heap.size) sz (by rw [hs.1]; decide) (Nat.le_refl _)
  simp only [List.length_nil, Nat.zero_add, List.nil_append, hs.1] at r1 o1
  have R1 := Lib.hid r1
  have O1 := Lib.hid o1
  have B1 := Lib.hid b1
  have SX := Lib.hid sx
  have SY := Lib.hid sy
  have SZ := Lib.hid sz
  unfold slotN
  clear r1 o1 b1 ho hm hs sx sy sz
  generalize wrp (wrk outer salt) master 4 = J at WR LW ⊢
  generalize wrk outer salt = K2 at DW WR
  generalize chk outer salt = K at DC LC ⊢
  go_enter Tryz.func9, Tryz.ntmps9
  go_wp2_with (at_builtin; refine wpList_app rfl (.tmp 10) (.tmp 11) rfl rfl rfl rfl R1.out ?_)
  refine (DC.out _ (SX.out.below B1.out) (SZ.out.below B1.out)).mono ?_
  rintro e w2 ⟨q2, d2, rfl, h2, hb⟩
  have o2 := O1.out.below hb
  have b2 := B1.out.trans (hb.mono B1.out.size)
  obtain ⟨x3, c3, w3, r3, o3, _, b3⟩ := app o2 h2 (by rw [LS.out, LC.out]; decide) b2.size
  simp only [LS.out, LC.out] at r3 o3
  have R3 := Lib.hid r3
  have O3 := Lib.hid o3
  have B3 := Lib.hid (b2.trans b3)
  clear h2 hb o2 b2 r3 o3 b3 O1 R1 B1
  go_wp2_with (at_builtin; refine wpList_app rfl (.tmp 13) (.tmp 16) rfl rfl rfl rfl R3.out ?_)
  refine (DW.out _ (SX.out.below B3.out) (SZ.out.below B3.out)).mono ?_
  rintro e w4 ⟨q4, d4, rfl, h4, hb⟩
  have S4 := Lib.hid h4
  have O4 := Lib.hid (O3.out.below hb)
  have B4 := Lib.hid (B3.out.trans (hb.mono B3.out.size))
  clear h4 hb R3 O3 B3
  go_wp2_with fail
  refine (WR.out _ _ _ S4.out (SY.out.below B4.out)).mono ?_
  rintro e w5 ⟨q5, d5, rfl, h5, hb⟩
  have o5 := O4.out.below hb
  have b5 := B4.out.trans (hb.mono B4.out.size)
  obtain ⟨x6, c6, w6, r6, o6, _, b6⟩ := app o5 h5 (by simp [LS.out, LC.out, LW.out]) b5.size
  simp only [List.length_append, LS.out, LC.out, LW.out] at r6 o6
  have R6 := Lib.hid r6
  have O6 := Lib.hid o6.sees
  have B6 := Lib.hid (b5.trans b6)
  clear h5 hb o5 b5 r6 o6 b6 O4 B4
  go_wp2_with (at_builtin; refine wpList_app rfl (.tmp 26) (.tmp 27) rfl rfl rfl rfl R6.out ?_)
  go_ret
  exact ⟨x6, c6, rfl, O6.out, B6.out⟩
theorem mk32 (w : World) : (Instr.makeSlice 31 (.int .i64 32) (.int .i64 32)).run Tryz.prog w = .ok (.slice (some ⟨w.heap.size, 0, none⟩) 32 32) (w.alloc (.cells (ncells (zeros 32)) 5)) := mkN 32 (by decide) w
def OpenP (w : World) (y : Int) (J : List Nat) (e : Ending) (w' : World) : Prop := ∃ q c, e = .returned (.tuple #[.slice q 32 c, .int .i64 y]) ∧ ae.Sees w' (.slice q 32 c) J ∧ Below w.heap.size w w'
set_option maxRecDepth 100000 in
set_option maxHeartbeats 4000000 in
theorem refOpenNo (outer A B C : List Nat) (ho : ae.Bts 32 outer) (hA : ae.Bts 32 A) (hB : ae.Bts 32 B) (hk : chk outer A ≠ B) (x : Option Addr) (cx : Nat) (b o cap : Nat) (w : World) (hvo : ae.Sees w (.slice x 32 cx) outer) (hs : ae.Sees w (.slice (some ⟨b, o, none⟩) 104 cap) (A ++ B ++ C)) (hcap : 104 ≤ cap) (hcm : cap ≤ maxLen) :
    Calls Tryz.prog 5 #[.slice x 32 cx, .slice (some ⟨b, o, none⟩) 104 cap] w (OpenP w 50 (zeros 32)) := by
  have CK := refCheck outer A B C (by rw [ho.1]; decide) hA.1 hB.1 (.slice x 32 cx) b o cap w hvo hs hcap hcm
  rw [decide_eq_false hk] at CK
  have CKH := Lib.hid CK
  have t1 : (32 : Int) ≤ (cap : Int) := by omega
  have mk := mk32
  have SN : Hid (∀ W : World, ae.Sees (W.alloc (.cells (ncells (zeros 32)) 5)) (.slice (some ⟨W.heap.size, 0, none⟩) 32 32) (zeros 32)) := fun W => sees_row _ _ _ (zeros_byt _) (by decide) (heap_alloc_new W _) 32 rfl
  clear CK hk hvo hs hcap hcm ho hA hB
  generalize ncells (zeros 32) = Z at mk SN
  go_enter Tryz.func5, Tryz.ntmps5
  go_wp2_with fail
  refine CKH.out.mono ?_
  rintro e w1 ⟨rfl, hb⟩
  have B1 := Lib.hid hb
  clear hb
  go_wp2_with fail
  go_ret2
  exact ⟨_, _, rfl, SN.out _, B1.out.alloc B1.out.size _⟩
set_option maxRecDepth 100000 in
set_option maxHeartbeats 8000000 in
theorem refOpenYes (outer A B C : List Nat) (ho : ae.Bts 32 outer) (hA : ae.Bts 32 A) (hB : ae.Bts 32 B) (hC : ae.Bts 40 C) (hk : chk outer A = B) (hf : (unw (wrk outer A) C 4).take 8 = fr8) (x : Option Addr) (cx : Nat) (b o cap : Nat) (w : World) (hvo : ae.Sees w (.slice x 32 cx) outer) (hs : ae.Sees w (.slice (some ⟨b, o, none⟩) 104 cap) (A ++ B ++ C)) (hcap : 104 ≤ cap) (hcm : cap ≤ maxLen) :
    Calls Tryz.prog 5 #[.slice x 32 cx, .slice (some ⟨b, o, none⟩) 104 cap] w (OpenP w 0 ((unw (wrk outer A) C 4).drop 8)) := by
  have CK := refCheck outer A B C (by rw [ho.1]; decide) hA.1 hB.1 (.slice x 32 cx) b o cap w hvo hs hcap hcm
  rw [decide_eq_true hk] at CK
  have CKH := Lib.hid CK
  have DW : Hid (∀ W : World, ae.Sees W (.slice x 32 cx) outer → ae.Sees W (.slice (some ⟨b, o, none⟩) 32 cap) A → Calls Tryz.prog 17 #[.slice x 32 cx, .slice (some ⟨b, o, none⟩) 32 cap, .string ⟨#[119, 114, 97, 112]⟩] W (TextP W 32 (wrk outer A))) := fun W h1 h2 => derW ho.1 hA.1 W h1 h2
  have hA2 : ae.Sees w (.slice (some ⟨b, o, none⟩) 32 cap) A := by
    have := sees_sub (A := []) (B := A) (C := B ++ C) (c := cap) (by rw [List.nil_append, ← List.append_assoc]; exact hs) (fun e => by have := hA.1; rw [e] at this; simp at this) (by rw [hA.1]; omega) hcm
    rw [hA.1] at this
    exact this
  have hC2 : ae.Sees w (.slice (some ⟨b, o + 64, none⟩) 40 (cap - 64)) C := by
    have := sees_sub (A := A ++ B) (B := C) (C := []) (c := cap - 64) (by rw [List.append_nil]; exact hs) (fun e => by have := hC.1; rw [e] at this; simp at this) (by rw [hC.1]; omega) (by omega)
    rw [List.length_append, hA.1, hB.1, hC.1] at this
    exact this
  have UW : Hid (∀ (W : World) (q : Option Addr) (c : Nat), ae.Sees W (.slice q 32 c) (wrk outer A) → ae.Sees W (.slice (some ⟨b, o + 64, none⟩) 40 (cap - 64)) C → Calls Tryz.prog 16 #[.slice q 32 c, .slice (some ⟨b, o + 64, none⟩) 40 (cap - 64)] W (OpenP W 0 ((unw (wrk outer A) C 4).drop 8))) := fun W q c h1 h2 => by
    have hw := wrk_bts (outer := outer) hA.2
    obtain ⟨kb, ko, rfl, h3, h4, h5, h6⟩ := h1.cells (fun e => by have := hw.1; rw [e] at this; simp at this)
    refine (refUnwrap (wrk outer A) C hw kb ko c 4 _ 40 _ W (fun i hi => h6 i (by rw [hw.1]; exact hi)) (by omega) h5 h2 hC.1.symm rfl (by decide) (by decide)).mono ?_
    rintro e w' ⟨hb, ⟨hy, q', c', he, hv⟩ | ⟨hn, he⟩⟩
    · exact ⟨q', c', he, hv, hb⟩
    · exact absurd hf hn
  have t1 : (32 : Int) ≤ (cap : Int) := by omega
  have t2 : (104 : Int) ≤ (cap : Int) := by omega
  have t3 : ¬ cap = 64 := by omega
  have PO := Lib.hid hvo
  have PA := Lib.hid hA2
  have PC := Lib.hid hC2
  have J0 : Hid (∃ J, J = (unw (wrk outer A) C 4).drop 8) := ⟨_, rfl⟩
  clear J0
  generalize (unw (wrk outer A) C 4).drop 8 = J at UW ⊢
  clear CK hk hf hvo hs hcap hcm ho hA hB hC hA2 hC2
  generalize wrk outer A = K at *
  go_enter Tryz.func5, Tryz.ntmps5
  go_wp2_with fail
  refine CKH.out.mono ?_
  rintro e w1 ⟨rfl, hb⟩
  have B1 := Lib.hid hb
  have PO := Lib.hid (PO.out.below hb)
  have PA := Lib.hid (PA.out.below hb)
  have PC := Lib.hid (PC.out.below hb)
  clear hb CKH
  go_wp2_with fail
  refine wp_region_held_drew (S := fun W => Below w1.heap.size w1 W) (by kernel_rfl) ((Below.refl _ _).drew) (fun hS => ?_)
  have hb0 : Below w1.heap.size w1 w1.drew := (Below.refl _ _).drew
  clear hb0 
  generalize w1.drew = Wys at hS  ⊢
  refine' wpAnyH_take (i := 0) ?h1x0y ?hsx0y ?hfx0y ?hrx0y ?hQx0y (Or.inl ⟨?hwx0y, ?hyx0y⟩) hS ?restx0y
  case h1x0y => (simp only [List.getElem?_toArray, List.getElem?_cons_zero]; rfl)
  case hsx0y | hfx0y | hrx0y => kernel_rfl
  case hQx0y => exact fun _ _ _ h => h
  case hwx0y => rfl
  case hyx0y =>
    intro W hW
    go_simp
    try with_reducible rfl
  simp only [Act.put, List.setIfInBounds_toArray, List.set_cons_succ, List.set_cons_zero]
  refine' wpAnyH_take (i := 1) ?h1x1y ?hsx1y ?hfx1y ?hrx1y ?hQx1y (Or.inl ⟨?hwx1y, ?hyx1y⟩) hS ?restx1y
  case h1x1y => (simp only [List.getElem?_toArray, List.getElem?_cons_succ, List.getElem?_cons_zero]; rfl)
  case hsx1y | hfx1y | hrx1y => kernel_rfl
  case hQx1y => exact fun _ _ _ h => h
  case hwx1y => rfl
  case hyx1y =>
    intro W hW
    go_simp
    try with_reducible rfl
  simp only [Act.put, List.setIfInBounds_toArray, List.set_cons_succ, List.set_cons_zero]
  refine' wpAnyH_take (i := 3) ?h1x3y ?hsx3y ?hfx3y ?hrx3y ?hQx3y (Or.inl ⟨?hwx3y, ?hyx3y⟩) hS ?restx3y
  case h1x3y => (simp only [List.getElem?_toArray, List.getElem?_cons_succ, List.getElem?_cons_zero]; rfl)
  case hsx3y | hfx3y | hrx3y => kernel_rfl
  case hQx3y => exact fun _ _ _ h => h
  case hwx3y => rfl
  case hyx3y =>
    intro W hW
    go_simp
    try with_reducible rfl
  simp only [Act.put, List.setIfInBounds_toArray, List.set_cons_succ, List.set_cons_zero]
  refine' wpAnyH_take (i := 4) ?h1x4y ?hsx4y ?hfx4y ?hrx4y ?hQx4y (Or.inl ⟨?hwx4y, ?hyx4y⟩) hS ?restx4y
  case h1x4y => (simp only [List.getElem?_toArray, List.getElem?_cons_succ, List.getElem?_cons_zero]; rfl)
  case hsx4y | hfx4y | hrx4y => kernel_rfl
  case hQx4y => exact fun _ _ _ h => h
  case hwx4y => rfl
  case hyx4y =>
    intro W hW
    go_simp
    try with_reducible rfl
  simp only [Act.put, List.setIfInBounds_toArray, List.set_cons_succ, List.set_cons_zero]
  refine wpAnyH_ready (rs := [2]) (by kernel_rfl) (by simp) ?_
  refine' (AllReadyH.cons ?hoc2y (fun K hK => ?stc2y) AllReadyH.nil)
  case hoc2y => (simp only [List.getElem?_toArray, List.getElem?_cons_succ, List.getElem?_cons_zero]; rfl)
  go_simp
  refine (DW.out Wys (PO.out.below hS) (PA.out.below hS)).mono ?_
  rintro e Wyx2 ⟨q1, c1, rfl, hs, hb⟩
  have S1 := Lib.hid hs
  clear hs
  go_wp2_with fail
  refine hK.out _ _ (hS.trans (hb.mono hS.size)) (fun hHeld => ?_)
  clear hK K
  try simp only [Act.put, List.setIfInBounds_toArray, List.set_cons_succ, List.set_cons_zero]
  clear hS
  have hS := hHeld
  clear hHeld
  clear hb
  refine wpAnyH_ready (rs := [5]) (by kernel_rfl) (by simp) ?_
  refine' (AllReadyH.cons ?hoc5yx2 (fun K hK => ?stc5yx2) AllReadyH.nil)
  case hoc5yx2 => (simp only [List.getElem?_toArray, List.getElem?_cons_succ, List.getElem?_cons_zero]; rfl)
  go_simp
  refine (UW.out Wyx2 _ _ S1.out (PC.out.below hS)).mono ?_
  rintro e Wyx2x5 ⟨q3, c3, rfl, hs, hb⟩
  have S1 := Lib.hid (S1.out.below hb)
  have S3 := Lib.hid hs
  clear hs
  go_wp2_with fail
  refine hK.out _ _ (hS.trans (hb.mono hS.size)) (fun hHeld => ?_)
  clear hK K
  try simp only [Act.put, List.setIfInBounds_toArray, List.set_cons_succ, List.set_cons_zero]
  clear hS
  have hS := hHeld
  clear hHeld
  clear hb
  refine' wpAnyH_take (i := 6) ?h1x6yx2x5 ?hsx6yx2x5 ?hfx6yx2x5 ?hrx6yx2x5 ?hQx6yx2x5 (Or.inl ⟨?hwx6yx2x5, ?hyx6yx2x5⟩) hS ?restx6yx2x5
  case h1x6yx2x5 => (simp only [List.getElem?_toArray, List.getElem?_cons_succ, List.getElem?_cons_zero]; rfl)
  case hsx6yx2x5 | hfx6yx2x5 | hrx6yx2x5 => kernel_rfl
  case hQx6yx2x5 => exact fun _ _ _ h => h
  case hwx6yx2x5 => rfl
  case hyx6yx2x5 =>
    intro W hW
    go_simp
    try with_reducible rfl
  simp only [Act.put, List.setIfInBounds_toArray, List.set_cons_succ, List.set_cons_zero]
  refine' wpAnyH_take (i := 7) ?h1x7yx2x5 ?hsx7yx2x5 ?hfx7yx2x5 ?hrx7yx2x5 ?hQx7yx2x5 (Or.inl ⟨?hwx7yx2x5, ?hyx7yx2x5⟩) hS ?restx7yx2x5
  case h1x7yx2x5 => (simp only [List.getElem?_toArray, List.getElem?_cons_succ, List.getElem?_cons_zero]; rfl)
  case hsx7yx2x5 | hfx7yx2x5 | hrx7yx2x5 => kernel_rfl
  case hQx7yx2x5 => exact fun _ _ _ h => h
  case hwx7yx2x5 => rfl
  case hyx7yx2x5 =>
    intro W hW
    go_simp
    try with_reducible rfl
  simp only [Act.put, List.setIfInBounds_toArray, List.set_cons_succ, List.set_cons_zero]
  refine' wpAnyH_take (i := 8) ?h1x8yx2x5 ?hsx8yx2x5 ?hfx8yx2x5 ?hrx8yx2x5 ?hQx8yx2x5 (Or.inl ⟨?hwx8yx2x5, ?hyx8yx2x5⟩) hS ?restx8yx2x5
  case h1x8yx2x5 => (simp only [List.getElem?_toArray, List.getElem?_cons_succ, List.getElem?_cons_zero]; rfl)
  case hsx8yx2x5 | hfx8yx2x5 | hrx8yx2x5 => kernel_rfl
  case hQx8yx2x5 => exact fun _ _ _ h => h
  case hwx8yx2x5 => rfl
  case hyx8yx2x5 =>
    intro W hW
    go_simp
    try with_reducible rfl
  simp only [Act.put, List.setIfInBounds_toArray, List.set_cons_succ, List.set_cons_zero]
  refine' wpAnyH_take (i := 9) ?h1x9yx2x5 ?hsx9yx2x5 ?hfx9yx2x5 ?hrx9yx2x5 ?hQx9yx2x5 (Or.inl ⟨?hwx9yx2x5, ?hyx9yx2x5⟩) hS ?restx9yx2x5
  case h1x9yx2x5 => (simp only [List.getElem?_toArray, List.getElem?_cons_succ, List.getElem?_cons_zero]; rfl)
  case hsx9yx2x5 | hfx9yx2x5 | hrx9yx2x5 => kernel_rfl
  case hQx9yx2x5 => exact fun _ _ _ h => h
  case hwx9yx2x5 => rfl
  case hyx9yx2x5 =>
    intro W hW
    go_simp
    try with_reducible rfl
  simp only [Act.put, List.setIfInBounds_toArray, List.set_cons_succ, List.set_cons_zero]
  refine' wpAnyH_take (i := 10) ?h1x10yx2x5 ?hsx10yx2x5 ?hfx10yx2x5 ?hrx10yx2x5 ?hQx10yx2x5 (Or.inl ⟨?hwx10yx2x5, ?hyx10yx2x5⟩) hS ?restx10yx2x5
  case h1x10yx2x5 => (simp only [List.getElem?_toArray, List.getElem?_cons_succ, List.getElem?_cons_zero]; rfl)
  case hsx10yx2x5 | hfx10yx2x5 | hrx10yx2x5 => kernel_rfl
  case hQx10yx2x5 => exact fun _ _ _ h => h
  case hwx10yx2x5 => rfl
  case hyx10yx2x5 =>
    intro W hW
    go_simp
    try with_reducible rfl
  simp only [Act.put, List.setIfInBounds_toArray, List.set_cons_succ, List.set_cons_zero]
  refine wpAnyH_done (by kernel_rfl) ?_ _
  have B3 := Lib.hid (B1.out.trans (hS.mono B1.out.size))
  clear hS
  go_wp2_with fail
  go_ret2
  exact ⟨q3, c3, rfl, S3.out, B3.out⟩
set_option maxRecDepth 100000 in
set_option maxHeartbeats 8000000 in
theorem refOpenBad (outer A B C : List Nat) (ho : ae.Bts 32 outer) (hA : ae.Bts 32 A) (hB : ae.Bts 32 B) (hC : ae.Bts 40 C) (hk : chk outer A = B) (hf : (unw (wrk outer A) C 4).take 8 ≠ fr8) (x : Option Addr) (cx : Nat) (b o cap : Nat) (w : World) (hvo : ae.Sees w (.slice x 32 cx) outer) (hs : ae.Sees w (.slice (some ⟨b, o, none⟩) 104 cap) (A ++ B ++ C)) (hcap : 104 ≤ cap) (hcm : cap ≤ maxLen) :
    Calls Tryz.prog 5 #[.slice x 32 cx, .slice (some ⟨b, o, none⟩) 104 cap] w (OpenP w 40 (zeros 32)) := by
  have CK := refCheck outer A B C (by rw [ho.1]; decide) hA.1 hB.1 (.slice x 32 cx) b o cap w hvo hs hcap hcm
  rw [decide_eq_true hk] at CK
  have CKH := Lib.hid CK
  have DW : Hid (∀ W : World, ae.Sees W (.slice x 32 cx) outer → ae.Sees W (.slice (some ⟨b, o, none⟩) 32 cap) A → Calls Tryz.prog 17 #[.slice x 32 cx, .slice (some ⟨b, o, none⟩) 32 cap, .string ⟨#[119, 114, 97, 112]⟩] W (TextP W 32 (wrk outer A))) := fun W h1 h2 => derW ho.1 hA.1 W h1 h2
  have hA2 : ae.Sees w (.slice (some ⟨b, o, none⟩) 32 cap) A := by
    have := sees_sub (A := []) (B := A) (C := B ++ C) (c := cap) (by rw [List.nil_append, ← List.append_assoc]; exact hs) (fun e => by have := hA.1; rw [e] at this; simp at this) (by rw [hA.1]; omega) hcm
    rw [hA.1] at this
    exact this
  have hC2 : ae.Sees w (.slice (some ⟨b, o + 64, none⟩) 40 (cap - 64)) C := by
    have := sees_sub (A := A ++ B) (B := C) (C := []) (c := cap - 64) (by rw [List.append_nil]; exact hs) (fun e => by have := hC.1; rw [e] at this; simp at this) (by rw [hC.1]; omega) (by omega)
    rw [List.length_append, hA.1, hB.1, hC.1] at this
    exact this
  have UW : Hid (∀ (W : World) (q : Option Addr) (c : Nat), ae.Sees W (.slice q 32 c) (wrk outer A) → ae.Sees W (.slice (some ⟨b, o + 64, none⟩) 40 (cap - 64)) C → Calls Tryz.prog 16 #[.slice q 32 c, .slice (some ⟨b, o + 64, none⟩) 40 (cap - 64)] W fun e w' => e = .returned (.tuple #[.slice none 0 0, .int .i64 20]) ∧ Below W.heap.size W w') := fun W q c h1 h2 => by
    have hw := wrk_bts (outer := outer) hA.2
    obtain ⟨kb, ko, rfl, h3, h4, h5, h6⟩ := h1.cells (fun e => by have := hw.1; rw [e] at this; simp at this)
    refine (refUnwrap (wrk outer A) C hw kb ko c 4 _ 40 _ W (fun i hi => h6 i (by rw [hw.1]; exact hi)) (by omega) h5 h2 hC.1.symm rfl (by decide) (by decide)).mono ?_
    rintro e w' ⟨hb, ⟨hy, q', c', he, hv⟩ | ⟨hn, he⟩⟩
    · exact absurd hy hf
    · exact ⟨he, hb⟩
  have t1 : (32 : Int) ≤ (cap : Int) := by omega
  have t2 : (104 : Int) ≤ (cap : Int) := by omega
  have t3 : ¬ cap = 64 := by omega
  have PO := Lib.hid hvo
  have PA := Lib.hid hA2
  have PC := Lib.hid hC2
  have mk := mk32
  have SN : Hid (∀ W : World, ae.Sees (W.alloc (.cells (ncells (zeros 32)) 5)) (.slice (some ⟨W.heap.size, 0, none⟩) 32 32) (zeros 32)) := fun W => sees_row _ _ _ (zeros_byt _) (by decide) (heap_alloc_new W _) 32 rfl
  generalize ncells (zeros 32) = Z at mk SN
  clear CK hk hf hvo hs hcap hcm ho hA hB hC hA2 hC2
  generalize wrk outer A = K at *
  go_enter Tryz.func5, Tryz.ntmps5
  go_wp2_with fail
  refine CKH.out.mono ?_
  rintro e w1 ⟨rfl, hb⟩
  have B1 := Lib.hid hb
  have PO := Lib.hid (PO.out.below hb)
  have PA := Lib.hid (PA.out.below hb)
  have PC := Lib.hid (PC.out.below hb)
  clear hb CKH
  go_wp2_with fail
  refine wp_region_held_drew (S := fun W => Below w1.heap.size w1 W) (by kernel_rfl) ((Below.refl _ _).drew) (fun hS => ?_)
  have hb0 : Below w1.heap.size w1 w1.drew := (Below.refl _ _).drew
  clear hb0 
  generalize w1.drew = Wzs at hS  ⊢
  refine' wpAnyH_take (i := 0) ?h1x0z ?hsx0z ?hfx0z ?hrx0z ?hQx0z (Or.inl ⟨?hwx0z, ?hyx0z⟩) hS ?restx0z
  case h1x0z => (simp only [List.getElem?_toArray, List.getElem?_cons_zero]; rfl)
  case hsx0z | hfx0z | hrx0z => kernel_rfl
  case hQx0z => exact fun _ _ _ h => h
  case hwx0z => rfl
  case hyx0z =>
    intro W hW
    go_simp
    try with_reducible rfl
  simp only [Act.put, List.setIfInBounds_toArray, List.set_cons_succ, List.set_cons_zero]
  refine' wpAnyH_take (i := 1) ?h1x1z ?hsx1z ?hfx1z ?hrx1z ?hQx1z (Or.inl ⟨?hwx1z, ?hyx1z⟩) hS ?restx1z
  case h1x1z => (simp only [List.getElem?_toArray, List.getElem?_cons_succ, List.getElem?_cons_zero]; rfl)
  case hsx1z | hfx1z | hrx1z => kernel_rfl
  case hQx1z => exact fun _ _ _ h => h
  case hwx1z => rfl
  case hyx1z =>
    intro W hW
    go_simp
    try with_reducible rfl
  simp only [Act.put, List.setIfInBounds_toArray, List.set_cons_succ, List.set_cons_zero]
  refine' wpAnyH_take (i := 3) ?h1x3z ?hsx3z ?hfx3z ?hrx3z ?hQx3z (Or.inl ⟨?hwx3z, ?hyx3z⟩) hS ?restx3z
  case h1x3z => (simp only [List.getElem?_toArray, List.getElem?_cons_succ, List.getElem?_cons_zero]; rfl)
  case hsx3z | hfx3z | hrx3z => kernel_rfl
  case hQx3z => exact fun _ _ _ h => h
  case hwx3z => rfl
  case hyx3z =>
    intro W hW
    go_simp
    try with_reducible rfl
  simp only [Act.put, List.setIfInBounds_toArray, List.set_cons_succ, List.set_cons_zero]
  refine' wpAnyH_take (i := 4) ?h1x4z ?hsx4z ?hfx4z ?hrx4z ?hQx4z (Or.inl ⟨?hwx4z, ?hyx4z⟩) hS ?restx4z
  case h1x4z => (simp only [List.getElem?_toArray, List.getElem?_cons_succ, List.getElem?_cons_zero]; rfl)
  case hsx4z | hfx4z | hrx4z => kernel_rfl
  case hQx4z => exact fun _ _ _ h => h
  case hwx4z => rfl
  case hyx4z =>
    intro W hW
    go_simp
    try with_reducible rfl
  simp only [Act.put, List.setIfInBounds_toArray, List.set_cons_succ, List.set_cons_zero]
  refine wpAnyH_ready (rs := [2]) (by kernel_rfl) (by simp) ?_
  refine' (AllReadyH.cons ?hoc2z (fun K hK => ?stc2z) AllReadyH.nil)
  case hoc2z => (simp only [List.getElem?_toArray, List.getElem?_cons_succ, List.getElem?_cons_zero]; rfl)
  go_simp
  refine (DW.out Wzs (PO.out.below hS) (PA.out.below hS)).mono ?_
  rintro e Wzx2 ⟨q1, c1, rfl, hs, hb⟩
  have S1 := Lib.hid hs
  clear hs
  go_wp2_with fail
  refine hK.out _ _ (hS.trans (hb.mono hS.size)) (fun hHeld => ?_)
  clear hK K
  try simp only [Act.put, List.setIfInBounds_toArray, List.set_cons_succ, List.set_cons_zero]
  clear hS
  have hS := hHeld
  clear hHeld
  clear hb
  refine wpAnyH_ready (rs := [5]) (by kernel_rfl) (by simp) ?_
  refine' (AllReadyH.cons ?hoc5zx2 (fun K hK => ?stc5zx2) AllReadyH.nil)
  case hoc5zx2 => (simp only [List.getElem?_toArray, List.getElem?_cons_succ, List.getElem?_cons_zero]; rfl)
  go_simp
  refine (UW.out Wzx2 _ _ S1.out (PC.out.below hS)).mono ?_
  rintro e Wzx2x5 ⟨rfl, hb⟩
  have S1 := Lib.hid (S1.out.below hb)
  go_wp2_with fail
  refine hK.out _ _ (hS.trans (hb.mono hS.size)) (fun hHeld => ?_)
  clear hK K
  try simp only [Act.put, List.setIfInBounds_toArray, List.set_cons_succ, List.set_cons_zero]
  clear hS
  have hS := hHeld
  clear hHeld
  clear hb
  refine' wpAnyH_take (i := 6) ?h1x6zx2x5 ?hsx6zx2x5 ?hfx6zx2x5 ?hrx6zx2x5 ?hQx6zx2x5 (Or.inl ⟨?hwx6zx2x5, ?hyx6zx2x5⟩) hS ?restx6zx2x5
  case h1x6zx2x5 => (simp only [List.getElem?_toArray, List.getElem?_cons_succ, List.getElem?_cons_zero]; rfl)
  case hsx6zx2x5 | hfx6zx2x5 | hrx6zx2x5 => kernel_rfl
  case hQx6zx2x5 => exact fun _ _ _ h => h
  case hwx6zx2x5 => rfl
  case hyx6zx2x5 =>
    intro W hW
    go_simp
    try with_reducible rfl
  simp only [Act.put, List.setIfInBounds_toArray, List.set_cons_succ, List.set_cons_zero]
  refine' wpAnyH_take (i := 7) ?h1x7zx2x5 ?hsx7zx2x5 ?hfx7zx2x5 ?hrx7zx2x5 ?hQx7zx2x5 (Or.inl ⟨?hwx7zx2x5, ?hyx7zx2x5⟩) hS ?restx7zx2x5
  case h1x7zx2x5 => (simp only [List.getElem?_toArray, List.getElem?_cons_succ, List.getElem?_cons_zero]; rfl)
  case hsx7zx2x5 | hfx7zx2x5 | hrx7zx2x5 => kernel_rfl
  case hQx7zx2x5 => exact fun _ _ _ h => h
  case hwx7zx2x5 => rfl
  case hyx7zx2x5 =>
    intro W hW
    go_simp
    try with_reducible rfl
  simp only [Act.put, List.setIfInBounds_toArray, List.set_cons_succ, List.set_cons_zero]
  refine' wpAnyH_take (i := 8) ?h1x8zx2x5 ?hsx8zx2x5 ?hfx8zx2x5 ?hrx8zx2x5 ?hQx8zx2x5 (Or.inl ⟨?hwx8zx2x5, ?hyx8zx2x5⟩) hS ?restx8zx2x5
  case h1x8zx2x5 => (simp only [List.getElem?_toArray, List.getElem?_cons_succ, List.getElem?_cons_zero]; rfl)
  case hsx8zx2x5 | hfx8zx2x5 | hrx8zx2x5 => kernel_rfl
  case hQx8zx2x5 => exact fun _ _ _ h => h
  case hwx8zx2x5 => rfl
  case hyx8zx2x5 =>
    intro W hW
    go_simp
    try with_reducible rfl
  simp only [Act.put, List.setIfInBounds_toArray, List.set_cons_succ, List.set_cons_zero]
  refine' wpAnyH_take (i := 9) ?h1x9zx2x5 ?hsx9zx2x5 ?hfx9zx2x5 ?hrx9zx2x5 ?hQx9zx2x5 (Or.inl ⟨?hwx9zx2x5, ?hyx9zx2x5⟩) hS ?restx9zx2x5
  case h1x9zx2x5 => (simp only [List.getElem?_toArray, List.getElem?_cons_succ, List.getElem?_cons_zero]; rfl)
  case hsx9zx2x5 | hfx9zx2x5 | hrx9zx2x5 => kernel_rfl
  case hQx9zx2x5 => exact fun _ _ _ h => h
  case hwx9zx2x5 => rfl
  case hyx9zx2x5 =>
    intro W hW
    go_simp
    try with_reducible rfl
  simp only [Act.put, List.setIfInBounds_toArray, List.set_cons_succ, List.set_cons_zero]
  refine' wpAnyH_take (i := 10) ?h1x10zx2x5 ?hsx10zx2x5 ?hfx10zx2x5 ?hrx10zx2x5 ?hQx10zx2x5 (Or.inl ⟨?hwx10zx2x5, ?hyx10zx2x5⟩) hS ?restx10zx2x5
  case h1x10zx2x5 => (simp only [List.getElem?_toArray, List.getElem?_cons_succ, List.getElem?_cons_zero]; rfl)
  case hsx10zx2x5 | hfx10zx2x5 | hrx10zx2x5 => kernel_rfl
  case hQx10zx2x5 => exact fun _ _ _ h => h
  case hwx10zx2x5 => rfl
  case hyx10zx2x5 =>
    intro W hW
    go_simp
    try with_reducible rfl
  simp only [Act.put, List.setIfInBounds_toArray, List.set_cons_succ, List.set_cons_zero]
  refine wpAnyH_done (by kernel_rfl) ?_ _
  have B3 := Lib.hid (B1.out.trans (hS.mono B1.out.size))
  clear hS
  go_wp2_with fail
  go_ret2
  exact ⟨_, _, rfl, SN.out _, B3.out.alloc B3.out.size _⟩
theorem refOpen (outer A B C : List Nat) (ho : ae.Bts 32 outer) (hA : ae.Bts 32 A) (hB : ae.Bts 32 B) (hC : ae.Bts 40 C) (x : Option Addr) (cx : Nat) (b o cap : Nat) (w : World) (hvo : ae.Sees w (.slice x 32 cx) outer) (hs : ae.Sees w (.slice (some ⟨b, o, none⟩) 104 cap) (A ++ B ++ C)) (hcap : 104 ≤ cap) (hcm : cap ≤ maxLen) :
    Calls Tryz.prog 5 #[.slice x 32 cx, .slice (some ⟨b, o, none⟩) 104 cap] w (OpenP w (opE outer A B C) (opV outer A B C)) := by
  unfold opE opV
  by_cases h : chk outer A = B
  · by_cases h2 : (unw (wrk outer A) C 4).take 8 = fr8
    · simp only [h, h2, if_true]
      exact refOpenYes outer A B C ho hA hB hC h h2 x cx b o cap w hvo hs hcap hcm
    · simp only [h, h2, if_true, if_false]
      exact refOpenBad outer A B C ho hA hB hC h h2 x cx b o cap w hvo hs hcap hcm
  · simp only [h, if_false]
    exact refOpenNo outer A B C ho hA hB h x cx b o cap w hvo hs hcap hcm
end Go.Proofs.YtpkeofioobmmoaaGreatDoor
