/-
  Contracts of the document's wrap: Bytes, mixed, join, words. Condition: the numbers are bytes.
-/
import Derived.Test.YtpkeofioobmmoaaGreatDoorAeWrT
import Derived.Test.YtpkeofioobmmoaaGreatDoorAeWrR
import Derived.Test.YtpkeofioobmmoaaGreatDoorAeRefG
import Derived.Test.YtpkeofioobmmoaaGreatDoorAeAesTurns
namespace Go.Proofs.YtpkeofioobmmoaaGreatDoor.ae
open Go.RowKit
/-- A number's bytes while they are laid. -/
def pre8 : Nat → Nat → List Nat
  | 0, _ => []
  | m + 1, y => pre8 m 0 ++ [y]
set_option maxRecDepth 100000 in
theorem pre8_8 (s : Nat) : pre8 8 s = zeros 7 ++ [s] := rfl
set_option maxRecDepth 100000 in
theorem refBytes8 (s : Nat) (hs : s < 256) (w : World) : Calls Tryz.prog 25 #[.int .u64 s, .int .i64 8] w (OwnP w (zeros 7 ++ [s])) := by
  have E8 : Hid (zeros 7 ++ [s] = pre8 (8 - 0) s ++ []) := by show _ = _; rw [List.append_nil]; exact (pre8_8 s).symm
  have L8 : Hid ((zeros 7 ++ [s]).length = 8) := rfl
  generalize zeros 7 ++ [s] = RES at *
  go_enter Tryz.func25, Tryz.ntmps25
  go_wp2_with fail
  go_loopw [0, 5, 6] (fun q u i wr => ∃ (k y : Nat) (x : Option Addr) (cap : Nat) (zs : List Nat), k ≤ 8 ∧ i = .int .i64 k ∧ y < 256 ∧ q = .int .u64 y ∧ zs.length = k ∧ RES = pre8 (8 - k) y ++ zs ∧ u = .slice x k cap ∧ Own wr w.heap.size u zs ∧ Below w.heap.size w wr) (fun _ _ i _ => 8 - (intOf i).toNat)
  case atStart => exact ⟨0, s, none, 0, [], by omega, rfl, hs, rfl, rfl, E8.out, rfl, own_nil _ _, Below.refl _ _⟩
  case round =>
    clear E8
    obtain ⟨k, y, x, cap, zs, hk, rfl, hy, rfl, hzl, hbe, rfl, ho, hb⟩ := hrel
    have HBE := Lib.hid hbe
    have HZ := Lib.hid hzl
    by_cases hlt : k < 8
    · have hk8 : (k : Int) < 8 := by omega
      have Y8 : Byt [y] := fun z hz => by simp at hz; omega
      have em : (y : Int) % 256 = (y : Int) := by omega
      have ed : (y : Int) / 256 = ((0 : Nat) : Int) := by omega
      have HO := Lib.hid (ho.below ((Below.refl _ _).alloc (Nat.le_refl _) (.cells (ncells [y]) 5)))
      have HB := Lib.hid (hb.alloc hb.size (.cells (ncells [y]) 5))
      have hown1 : Own (wr.alloc (.cells (ncells [y]) 5)) (wr.heap.size) (.slice (some ⟨wr.heap.size, 0, none⟩) 1 1) [y] := own_lit wr wr.heap.size [y] Y8 (by simp [maxLen]) (Nat.le_refl _)
      obtain ⟨x3, c3, w3, hr, ho3, hg3, hb3⟩ := app hown1 HO.out.sees (by simp; omega) (by simp)
      simp only [List.length_cons, List.length_nil, Nat.zero_add, HZ.out, List.cons_append, List.nil_append] at hr ho3
      have HR : Hid ((Builtin.append_ #[31, 31] 31 #[.slice (some ⟨wr.heap.size, 0, none⟩) 1 1, .slice x k cap]).run Tryz.prog (wr.alloc (.cells #[.int .u8 (y : Int)] 5)) = .ok (.slice x3 (1 + k) c3) w3) := hr
      have HO3 : Hid (Own w3 w.heap.size (.slice x3 (1 + k) c3) (y :: zs)) := ho3.lift hb.size
      have HB3 := Lib.hid (HB.out.trans (hb3.mono hb.size))
      have HN : Hid (RES = pre8 (8 - (k + 1)) 0 ++ (y :: zs)) := by
        show _ = _
        rw [HBE.out]
        obtain ⟨m, hm⟩ : ∃ m, 8 - k = m + 1 := ⟨8 - k - 1, by omega⟩
        have hm2 : 8 - (k + 1) = m := by omega
        rw [hm, hm2, pre8, List.append_assoc]
        rfl
      clear hr ho3 hg3 hb3 hown1 ho hb hbe hzl
      go_wp2_with (at_builtin; refine wpList_app rfl _ _ rfl rfl rfl rfl HR.out ?_)
      go_roundw
      case rel => exact ⟨k + 1, 0, x3, c3, y :: zs, by omega, by go_num, by omega, rfl, by simp [HZ.out], HN.out, by rw [Nat.add_comm 1 k], by rw [Nat.add_comm 1 k] at *; exact HO3.out, HB3.out⟩
      case measure => simp [intOf]; omega
    · have hkn : k = 8 := by omega
      subst hkn
      have HE : Hid (RES = zs) := by show _ = _; rw [HBE.out, Nat.sub_self]; rfl
      have HO := Lib.hid ho
      have HB := Lib.hid hb
      clear ho hb hbe hzl
      go_wp2
      go_ret
      unfold OwnP
      rw [L8.out, HE.out]
      exact ⟨x, cap, rfl, HO.out, HB.out⟩
set_option maxRecDepth 100000 in
theorem xorl_mixw : ∀ (a : List Nat), a.length = 8 → ∀ s, xorl 8 a (zeros 7 ++ [s]) = mixw a s
  | [a0, a1, a2, a3, a4, a5, a6, a7], _, s => by
    have z : ∀ x : Nat, Nat.xor x 0 = x := fun x => Nat.xor_zero x
    show [Nat.xor a0 0, Nat.xor a1 0, Nat.xor a2 0, Nat.xor a3 0, Nat.xor a4 0, Nat.xor a5 0, Nat.xor a6 0, Nat.xor a7 s] = [a0, a1, a2, a3, a4, a5, a6, Nat.xor a7 s]
    simp only [z]
set_option maxRecDepth 100000 in
set_option maxHeartbeats 4000000 in
theorem mixedC (x : Option Addr) (cap : Nat) (a : List Nat) (s : Nat) (w : World) (ha : Bts 8 a) (hs256 : s < 256) (hs : Sees w (.slice x 8 cap) a) :
    Calls Tryz.prog 35 #[.slice x 8 cap, .int .i64 s] w (OwnP w (mixw a s)) := by
  have XM := Lib.hid (xorl_mixw a ha.1 s)
  have ML : Hid ((mixw a s).length = 8) := (mixw_bts ha hs256).1
  have RB := Lib.hid (refBytes8 s hs256 w)
  have HL := Lib.hid ha.1
  have HXS := Lib.hid hs
  have YB : Hid (Byt (zeros 7 ++ [s])) := (zeros_byt 7).append (fun z hz => by simp at hz; omega)
  have YL : Hid ((zeros 7 ++ [s]).length = 8) := rfl
  have HX := Lib.hid hs.1
  have cv : IntKind.u64.wrap (s : Int) = (s : Int) := by show (s : Int) % 18446744073709551616 = s; omega
  generalize zeros 7 ++ [s] = ys at *
  generalize mixw a s = RES at *
  clear ha hs
  go_enter Tryz.func35, Tryz.ntmps35
  go_wp2_with fail
  refine RB.out.mono ?_
  rintro e wb ⟨y, cy, rfl, hob, hbb⟩
  rw [YL.out] at hob ⊢
  have hy := hob.sees
  have hsx := HXS.out.below hbb
  have HBB0 := Lib.hid hbb
  obtain ⟨xs, hxs⟩ : ∃ xs, xs = a := ⟨_, rfl⟩
  rw [← hxs] at XM HL HX hsx
  clear hxs
  have HY := YB
  have HS : Hid (∀ i, i < 8 → ∃ bb oo, x = some ⟨bb, oo, none⟩ ∧ bb < wb.heap.size ∧ wb.cell? ⟨bb, oo + i, none⟩ = some (.int .u8 (at_ xs i : Nat))) := fun i hi => by
    obtain ⟨bb, oo, h1, _, _, _, h5⟩ := hsx.cells (fun e => by have := HL.out; rw [e] at this; simp at this)
    exact ⟨bb, oo, h1, World.block_lt_of_cell? wb _ (h5 i (by have := HL.out; omega)), h5 i (by have := HL.out; omega)⟩
  have HT : Hid (∀ i, i < 8 → ∃ bb oo, y = some ⟨bb, oo, none⟩ ∧ bb < wb.heap.size ∧ wb.cell? ⟨bb, oo + i, none⟩ = some (.int .u8 (at_ ys i : Nat))) := fun i hi => by
    obtain ⟨bb, oo, h1, _, _, _, h5⟩ := hy.cells (fun e => by have := YL.out; rw [e] at this; simp at this)
    exact ⟨bb, oo, h1, World.block_lt_of_cell? wb _ (h5 i (by have := YL.out; omega)), h5 i (by have := YL.out; omega)⟩
  clear hob hbb hy hsx
  go_wp2_with fail
  go_loopw [6, 7] (fun v vi wr => ∃ (i : Nat) (q : Option Addr) (c : Nat), i ≤ 8 ∧ vi = .int .i64 i ∧ v = .slice q i c ∧ Own wr wb.heap.size (.slice q i c) (xorl i xs ys) ∧ Below wb.heap.size wb wr) (fun _ vi _ => 8 - (intOf vi).toNat)
  case atStart => exact ⟨0, none, 0, by omega, rfl, rfl, own_nil _ _, Below.refl _ _⟩
  case round =>
    obtain ⟨i, q, c, hi, rfl, rfl, ho, hb⟩ := hrel
    by_cases hlt : i < 8
    · obtain ⟨bb, oo, rfl, LBB, hcx⟩ := HS.out i hlt
      obtain ⟨bc, oc, rfl, LBC, hcy⟩ := HT.out i hlt
      have hi16 : (i : Int) < 8 := by omega
      have xl := HX.out.at i
      have yl := HY.out.at i
      have CX := Lib.hid hcx
      have CY := Lib.hid hcy
      have LBBh := Lib.hid LBB
      have LBCh := Lib.hid LBC
      have X8 := Lib.hid (xor8 (at_ xs i) (at_ ys i) xl yl)
      obtain ⟨q1, c1, w1, hr, ho1, hb1⟩ := ho.drew.push (x := Nat.xor (at_ xs i) (at_ ys i)) (xor_lt xl yl) (by rw [xorl, tab_len]; omega) hb.size
      rw [xorl, ← tab_succ i (fun i => Nat.xor (at_ xs i) (at_ ys i)), tab_len] at ho1
      rw [xorl, tab_len] at hr
      have HO1 := Lib.hid ho1
      have HR := Lib.hid hr
      have HBB := Lib.hid hb
      have HB2 := Lib.hid (hb.drew.trans hb1)
      clear ho1 hr hb1 ho hb LBB hcx LBC hcy
      generalize Nat.xor (at_ xs i) (at_ ys i) = z at *
      generalize at_ xs i = e at *
      generalize at_ ys i = f at *
      go_wp2_with fail
      refine wp_region_held_drew (S := fun W => Below wb.heap.size wb W) (by kernel_rfl) HBB.out.drew (fun hS => ?_)
      refine' wpAnyH_take (i := 0) ?h1x0p ?hsx0p ?hfx0p ?hrx0p ?hQx0p (Or.inl ⟨?hwx0p, ?hyx0p⟩) hS ?restx0p
      case h1x0p => (simp only [List.getElem?_toArray, List.getElem?_cons_zero]; rfl)
      case hsx0p | hfx0p | hrx0p => kernel_rfl
      case hQx0p => exact fun _ _ _ h => h
      case hwx0p => rfl
      case hyx0p =>
        intro W hW
        go_simp
        try with_reducible rfl
      simp only [Act.put, List.setIfInBounds_toArray, List.set_cons_succ, List.set_cons_zero]
      refine' wpAnyH_take (i := 1) ?h1x1p ?hsx1p ?hfx1p ?hrx1p ?hQx1p (Or.inl ⟨?hwx1p, ?hyx1p⟩) hS ?restx1p
      case h1x1p => (simp only [List.getElem?_toArray, List.getElem?_cons_succ, List.getElem?_cons_zero]; rfl)
      case hsx1p | hfx1p | hrx1p => kernel_rfl
      case hQx1p => exact fun _ _ _ h => h
      case hwx1p => rfl
      case hyx1p =>
        intro W hW
        go_simp
        try with_reducible rfl
      simp only [Act.put, List.setIfInBounds_toArray, List.set_cons_succ, List.set_cons_zero]
      refine' wpAnyH_take (i := 2) ?h1x2p ?hsx2p ?hfx2p ?hrx2p ?hQx2p (Or.inl ⟨?hwx2p, ?hyx2p⟩) hS ?restx2p
      case h1x2p => (simp only [List.getElem?_toArray, List.getElem?_cons_succ, List.getElem?_cons_zero]; rfl)
      case hsx2p | hfx2p | hrx2p => kernel_rfl
      case hQx2p => exact fun _ _ _ h => h
      case hwx2p => rfl
      case hyx2p =>
        intro W hW
        go_simp
        try with_reducible rfl
      simp only [Act.put, List.setIfInBounds_toArray, List.set_cons_succ, List.set_cons_zero]
      refine' wpAnyH_take (i := 3) ?h1x3p ?hsx3p ?hfx3p ?hrx3p ?hQx3p (Or.inl ⟨?hwx3p, ?hyx3p⟩) hS ?restx3p
      case h1x3p => (simp only [List.getElem?_toArray, List.getElem?_cons_succ, List.getElem?_cons_zero]; rfl)
      case hsx3p | hfx3p | hrx3p => kernel_rfl
      case hQx3p => exact fun _ _ _ h => h
      case hwx3p => rfl
      case hyx3p =>
        intro W hW
        go_simp
        try with_reducible rfl
      simp only [Act.put, List.setIfInBounds_toArray, List.set_cons_succ, List.set_cons_zero]
      refine' wpAnyH_take (i := 4) ?h1x4p ?hsx4p ?hfx4p ?hrx4p ?hQx4p (Or.inl ⟨?hwx4p, ?hyx4p⟩) hS ?restx4p
      case h1x4p => (simp only [List.getElem?_toArray, List.getElem?_cons_succ, List.getElem?_cons_zero]; rfl)
      case hsx4p | hfx4p | hrx4p => kernel_rfl
      case hQx4p => exact fun _ _ _ h => h
      case hwx4p => rfl
      case hyx4p =>
        intro W hW
        have dd := (hW.cell (p := ⟨bb, oo + i, none⟩) LBBh.out).trans CX.out
        go_simp
        try with_reducible rfl
      simp only [Act.put, List.setIfInBounds_toArray, List.set_cons_succ, List.set_cons_zero]
      refine' wpAnyH_take (i := 5) ?h1x5p ?hsx5p ?hfx5p ?hrx5p ?hQx5p (Or.inl ⟨?hwx5p, ?hyx5p⟩) hS ?restx5p
      case h1x5p => (simp only [List.getElem?_toArray, List.getElem?_cons_succ, List.getElem?_cons_zero]; rfl)
      case hsx5p | hfx5p | hrx5p => kernel_rfl
      case hQx5p => exact fun _ _ _ h => h
      case hwx5p => rfl
      case hyx5p =>
        intro W hW
        go_simp
        try with_reducible rfl
      simp only [Act.put, List.setIfInBounds_toArray, List.set_cons_succ, List.set_cons_zero]
      refine' wpAnyH_take (i := 6) ?h1x6p ?hsx6p ?hfx6p ?hrx6p ?hQx6p (Or.inl ⟨?hwx6p, ?hyx6p⟩) hS ?restx6p
      case h1x6p => (simp only [List.getElem?_toArray, List.getElem?_cons_succ, List.getElem?_cons_zero]; rfl)
      case hsx6p | hfx6p | hrx6p => kernel_rfl
      case hQx6p => exact fun _ _ _ h => h
      case hwx6p => rfl
      case hyx6p =>
        intro W hW
        go_simp
        try with_reducible rfl
      simp only [Act.put, List.setIfInBounds_toArray, List.set_cons_succ, List.set_cons_zero]
      refine' wpAnyH_take (i := 7) ?h1x7p ?hsx7p ?hfx7p ?hrx7p ?hQx7p (Or.inl ⟨?hwx7p, ?hyx7p⟩) hS ?restx7p
      case h1x7p => (simp only [List.getElem?_toArray, List.getElem?_cons_succ, List.getElem?_cons_zero]; rfl)
      case hsx7p | hfx7p | hrx7p => kernel_rfl
      case hQx7p => exact fun _ _ _ h => h
      case hwx7p => rfl
      case hyx7p =>
        intro W hW
        go_simp
        try with_reducible rfl
      simp only [Act.put, List.setIfInBounds_toArray, List.set_cons_succ, List.set_cons_zero]
      refine' wpAnyH_take (i := 8) ?h1x8p ?hsx8p ?hfx8p ?hrx8p ?hQx8p (Or.inl ⟨?hwx8p, ?hyx8p⟩) hS ?restx8p
      case h1x8p => (simp only [List.getElem?_toArray, List.getElem?_cons_succ, List.getElem?_cons_zero]; rfl)
      case hsx8p | hfx8p | hrx8p => kernel_rfl
      case hQx8p => exact fun _ _ _ h => h
      case hwx8p => rfl
      case hyx8p =>
        intro W hW
        have dd := (hW.cell (p := ⟨bc, oc + i, none⟩) LBCh.out).trans CY.out
        go_simp
        try with_reducible rfl
      simp only [Act.put, List.setIfInBounds_toArray, List.set_cons_succ, List.set_cons_zero]
      refine' wpAnyH_take (i := 9) ?h1x9p ?hsx9p ?hfx9p ?hrx9p ?hQx9p (Or.inl ⟨?hwx9p, ?hyx9p⟩) hS ?restx9p
      case h1x9p => (simp only [List.getElem?_toArray, List.getElem?_cons_succ, List.getElem?_cons_zero]; rfl)
      case hsx9p | hfx9p | hrx9p => kernel_rfl
      case hQx9p => exact fun _ _ _ h => h
      case hwx9p => rfl
      case hyx9p =>
        intro W hW
        have dd := X8.out
        go_simp
        try with_reducible rfl
      simp only [Act.put, List.setIfInBounds_toArray, List.set_cons_succ, List.set_cons_zero]
      refine wpAnyH_ready (rs := [10]) (by kernel_rfl) (by simp) ?_
      refine' AllReadyH.cons ?hoc10p (fun K hK => ?stc10p) AllReadyH.nil
      case hoc10p => (simp only [List.getElem?_toArray, List.getElem?_cons_succ, List.getElem?_cons_zero]; rfl)
      go_simp
      refine hK.out _ _ (hS.alloc hS.size _) (fun hHeld => ?_)
      clear hK K
      try simp only [Act.put, List.setIfInBounds_toArray, List.set_cons_succ, List.set_cons_zero]
      clear hS
      have hS := hHeld
      clear hHeld
      refine wpAnyH_ready (rs := [11]) (by kernel_rfl) (by simp) ?_
      refine' AllReadyH.cons ?hoc11p (fun K hK => ?stc11p) AllReadyH.nil
      case hoc11p => (simp only [List.getElem?_toArray, List.getElem?_cons_succ, List.getElem?_cons_zero]; rfl)
      refine step_app rfl _ _ rfl rfl rfl rfl HR.out ?_
      refine hK.out _ _ HB2.out (fun hHeld => ?_)
      clear hK K
      try simp only [Act.put, List.setIfInBounds_toArray, List.set_cons_succ, List.set_cons_zero]
      clear hS
      have hS := hHeld
      clear hHeld
      refine' wpAnyH_take (i := 12) ?h1x12p ?hsx12p ?hfx12p ?hrx12p ?hQx12p (Or.inl ⟨?hwx12p, ?hyx12p⟩) hS ?restx12p
      case h1x12p => (simp only [List.getElem?_toArray, List.getElem?_cons_succ, List.getElem?_cons_zero]; rfl)
      case hsx12p | hfx12p | hrx12p => kernel_rfl
      case hQx12p => exact fun _ _ _ h => h
      case hwx12p => rfl
      case hyx12p =>
        intro W hW
        go_simp
        try with_reducible rfl
      simp only [Act.put, List.setIfInBounds_toArray, List.set_cons_succ, List.set_cons_zero]
      refine wpAnyH_done (by kernel_rfl) ?_ _
      go_wp2_with fail
      go_roundw
      case rel => exact ⟨i + 1, q1, c1, by omega, by go_num, rfl, HO1.out, HB2.out⟩
      case measure => simp [intOf]; omega
    · have hi8 : i = 8 := by omega
      subst hi8
      have HO := Lib.hid (ho.lift HBB0.out.size)
      have HB := Lib.hid (HBB0.out.trans (hb.mono HBB0.out.size))
      clear ho hb
      go_wp2_with fail
      go_ret
      unfold OwnP
      rw [ML.out, ← XM.out]
      exact ⟨q, c, rfl, HO.out, HB.out⟩
/-- The call's own slices of eight bytes each. -/
def OwnE (w : World) (base : Nat) (v : Value) (xs : List Value) : Prop := (∀ x ∈ xs, ∃ q c, x = .slice q 8 c) ∧ w.ownsRow base 31 1 v xs.length xs
set_option maxRecDepth 100000 in
theorem owne_nil (w : World) (base : Nat) : OwnE w base (.slice none 0 0) [] := ⟨fun _ h => by simp at h, World.ownsRow_nil w base 31 1⟩
set_option maxRecDepth 100000 in
theorem OwnE.grown {w w' : World} {base : Nat} {v : Value} {xs : List Value} {row : Option Nat} (h : OwnE w base v xs) (hg : w.grownBy w' row) (hne : v.ownBlock = none ∨ v.ownBlock ≠ row) : OwnE w' base v xs := ⟨h.1, h.2.kept hg hne⟩
set_option maxRecDepth 100000 in
theorem OwnE.below {w w' : World} {base : Nat} {v : Value} {xs : List Value} (h : OwnE w base v xs) (hb : Below w.heap.size w w') : OwnE w' base v xs :=
  h.grown (row := none) ⟨hb.os, hb.tape, hb.output, hb.size, fun k hk _ => hb.block k hk⟩ (by cases v.ownBlock <;> simp)
set_option maxRecDepth 100000 in
theorem OwnE.push {w : World} {base : Nat} {v : Value} {xs : List Value} (h : OwnE w base v xs) (hn : xs.length + 1 ≤ 1000) (hbase : base ≤ w.heap.size) (q : Option Addr) (c : Nat) :
    ∃ q' cap w', (Builtin.append_ #[63, 63] 63 #[v, .slice (some ⟨w.heap.size, 0, none⟩) 1 1]).run Tryz.prog (w.alloc (.cells #[.slice q 8 c] 31)) = .ok (.slice q' (xs.length + 1) cap) w' ∧
      OwnE w' base (.slice q' (xs.length + 1) cap) (xs ++ [.slice q 8 c]) ∧ Below base w w' ∧ (w.alloc (.cells #[.slice q 8 c] 31)).grownBy w' v.ownBlock := by
  obtain ⟨i, hi, hz0, hz1, hz2⟩ := info_parts info28
  have ho : OwnE (w.alloc (.cells #[.slice q 8 c] 31)) base v xs := h.below ((Below.refl _ _).alloc (Nat.le_refl _) _)
  have hm : xs.length + 1 ≤ maxLen := by unfold maxLen; omega
  obtain ⟨v', w', hr, hown, hg, hnil⟩ := run_append_own (P := Tryz.prog) (w.alloc (.cells #[.slice q 8 c] 31)) base 63 63 31 i _ 1 24 Tryz.underlying63 hi hz0 hz1 hz2 rfl (by decide) v xs.length _ ho.2 ⟨w.heap.size, 0, none⟩ 1 1 [.slice q 8 c] rfl (cell_one_new w _ _) (by simp [Value.oneCell']) hm (by omega) (by simp; omega)
  have hbel : Below base w w' := ((Below.refl base w).alloc hbase _).grown hg (by simp; omega) (fun j e => (World.ownsRow.lt ho.2 j e).1)
  have hown' : OwnE w' base v' (xs ++ [.slice q 8 c]) := by
    refine ⟨fun x hx => ?_, by rw [List.length_append]; exact hown⟩
    rcases List.mem_append.1 hx with hx | hx
    · exact h.1 x hx
    · simp at hx; exact ⟨q, c, hx⟩
  rcases hown.2 with ⟨rfl, h0⟩ | ⟨g, cap, cur, rfl, _⟩
  · omega
  · exact ⟨_, _, w', hr, hown', hbel, hg⟩
set_option maxRecDepth 100000 in
theorem WI.appendE {z : Nat} {W W' : World} {base : Nat} {v vw : Value} {l : List Nat} {xs : List Value} (h : WI z W v l) (ho : OwnE W base vw xs) (hg : W.grownBy W' vw.ownBlock) (hz : z ≤ base) : WI z W' v l := by
  rcases ho.2.2 with ⟨rfl, _⟩ | ⟨g, cap, cur, rfl, hbg, hgg, _⟩
  · have hb : Below W.heap.size W W' := ⟨hg.os, hg.tape, hg.output, hg.size, fun k hk => hg.block k hk (by simp [Value.ownBlock])⟩
    exact h.below hb
  · exact h.keep (r := g) (Keep.of_grown hg) (Nat.le_trans hz hbg) hgg (by decide)
/-- A row of slices in its block. -/
def RWs (W : World) (R : Nat) (xs : List Value) : Prop := ∃ cs, W.heap[R]? = some (.cells cs 31 (0, 0)) ∧ xs.length ≤ cs.size ∧ ∀ i (hi : i < xs.length), cs[i]? = some xs[i]
set_option maxRecDepth 100000 in
theorem OwnE.row {w : World} {base : Nat} {q : Option Addr} {n c : Nat} {xs : List Value} (h : OwnE w base (.slice q n c) xs) (hl : xs.length = n) (h0 : 0 < n) : ∃ R, q = some ⟨R, 0, none⟩ ∧ base ≤ R ∧ n ≤ c ∧ c ≤ maxLen ∧ RWs w R xs := by
  subst hl
  obtain ⟨_, h2, ⟨_, h3⟩ | ⟨g, cap', cur, hv, hb, hg, hn, hc, hs, ht⟩⟩ := h
  · omega
  · simp only [Value.slice.injEq] at hv
    obtain ⟨rfl, _, rfl⟩ := hv
    refine ⟨g, rfl, hb, hn, hc, cur, hg, by omega, fun j hj => ?_⟩
    have e : cur.toList[j]? = xs[j]? := by
      rw [← ht, List.getElem?_take_of_lt (by simpa using hj)]
    rw [Array.getElem?_toList] at e
    rw [e, List.getElem?_eq_getElem hj]
set_option maxRecDepth 100000 in
theorem RWs.below {W W' : World} {R : Nat} {xs : List Value} (h : RWs W R xs) (hb : Below W.heap.size W W') : RWs W' R xs := by
  obtain ⟨cs, h1, h2⟩ := h
  exact ⟨cs, (hb.block _ (blk_lt h1)).trans h1, h2⟩
set_option maxRecDepth 100000 in
theorem RWs.cell {W : World} {R : Nat} {xs : List Value} (h : RWs W R xs) {i : Nat} {v : Value} (hi : xs[i]? = some v) : W.cell? ⟨R, i, none⟩ = some v := by
  obtain ⟨cs, h1, h2, h3⟩ := h
  have hl : i < xs.length := (List.getElem?_eq_some_iff.1 hi).1
  rw [cell_of_row _ _ _ _ _ _ h1, h3 i hl, ← hi, List.getElem?_eq_getElem hl]
set_option maxRecDepth 100000 in
theorem RWs.frozen {W : World} {R : Nat} {xs : List Value} (h : RWs W R xs) (i : Nat) : W.frozen? ⟨R, i, none⟩ = false := by
  obtain ⟨cs, h1, _⟩ := h
  exact frozen_of_row W R i _ 31 h1
set_option maxRecDepth 100000 in
theorem RWs.set {W : World} {R i : Nat} {xs : List Value} {v : Value} (h : RWs W R xs) (hi : i < xs.length) : RWs (W.setCell ⟨R, i, none⟩ v) R (xs.set i v) := by
  obtain ⟨cs, h1, h2, h3⟩ := h
  refine ⟨cs.setIfInBounds i v, heap_setCell_same _ _ _ _ _ _ h1, by simpa using h2, fun j hj => ?_⟩
  rw [List.length_set] at hj
  rw [Array.getElem?_setIfInBounds, List.getElem_set]
  by_cases e : i = j
  · rw [if_pos e, if_pos e, if_pos (by omega)]
  · rw [if_neg e, if_neg e, h3 j hj]
set_option maxRecDepth 100000 in
set_option maxHeartbeats 4000000 in
/-- A word and some others, one behind the other. -/
theorem joinC (v : Value) (a : List Nat) (R o n cR : Nat) (r : List (List Nat)) (w : World) (ha : a.length ≤ 8) (hs : Sees w v a) (hr : r.length = n) (hn : n ≤ 20) (h8 : ∀ y ∈ r, y.length = 8)
    (hc : ∀ i y, r[i]? = some y → ∃ u, w.cell? ⟨R, o + i, none⟩ = some u ∧ Sees w u y) :
    Calls Tryz.prog 34 #[v, .slice (some ⟨R, o, none⟩) n cR] w (OwnP w (a ++ r.flatten)) := by
  have CP := Lib.hid (copy v a (by omega) w hs)
  have HC := Lib.hid hc
  have HR0 := Lib.hid hr
  have H8 := Lib.hid h8
  have hni : (n : Int) ≤ 20 := by omega
  have HA := Lib.hid ha
  clear hs hc hr h8 ha
  go_enter Tryz.func34, Tryz.ntmps34
  go_wp2_with fail
  refine CP.out.mono ?_
  rintro e w1 ⟨q1, c1, rfl, ho1, hb1⟩
  have HO1 := Lib.hid ho1
  have HB1 := Lib.hid hb1
  clear ho1 hb1
  go_wp2_with fail
  go_loopw [5, 6] (fun u vi wr => ∃ (i : Nat) (q : Option Addr) (c L : Nat), i ≤ n ∧ vi = .int .i64 i ∧ L = (a ++ (r.take i).flatten).length ∧ u = .slice q L c ∧ Own wr w.heap.size (.slice q L c) (a ++ (r.take i).flatten) ∧ Below w.heap.size w wr) (fun _ vi _ => n - (intOf vi).toNat)
  case atStart => exact ⟨0, q1, c1, a.length, by omega, rfl, by simp, rfl, by rw [List.take_zero, List.flatten_nil, List.append_nil]; exact HO1.out, HB1.out⟩
  case round =>
    clear HO1 HB1
    obtain ⟨i, q, c, L, hi, rfl, hL, rfl, ho, hb⟩ := hrel
    by_cases hlt : i < n
    · have hii : (i : Int) < (n : Int) := by omega
      have hir : i < r.length := by have := HR0.out; omega
      obtain ⟨u, hu, hsu⟩ := HC.out i r[i] (List.getElem?_eq_getElem hir)
      have hy8 := H8.out r[i] (List.getElem_mem hir)
      have cu : wr.cell? ⟨R, o + i, none⟩ = some u := (hb.cell (p := ⟨R, o + i, none⟩) (World.block_lt_of_cell? w _ hu)).trans hu
      have hsum : (a ++ (r.take i).flatten).length ≤ 200 := by
        rw [List.length_append, flat_len (mem_take8 H8.out i), List.length_take]
        have := HA.out
        omega
      have hLi : (L : Int) ≤ 200 := by omega
      have hnx : a ++ (r.take (i + 1)).flatten = (a ++ (r.take i).flatten) ++ r[i] := by
        rw [List.take_succ_eq_append_getElem hir, List.flatten_append, List.append_assoc]
        simp
      obtain ⟨q2, c2, w2, hrun, ho2, hg2, hb2⟩ := app ho (hsu.below hb) (by omega) hb.size
      rw [← hL, hy8] at hrun
      rw [← hnx, ← hL, hy8] at ho2
      have HRU := Lib.hid hrun
      have HO2 := Lib.hid ho2
      have HB2 := Lib.hid (hb.trans hb2)
      have HL2 : Hid (L + 8 = (a ++ (r.take (i + 1)).flatten).length) := by
        show _ = _
        rw [hnx, List.length_append, ← hL, hy8]
      clear hsum hnx hrun ho2 hg2 hb2 hL hu hsu hy8 ho hb
      go_wp2_with (at_builtin; refine wpList_app rfl _ _ rfl rfl rfl rfl HRU.out ?_)
      go_roundw
      case rel => exact ⟨i + 1, q2, c2, L + 8, by omega, by go_num, HL2.out, rfl, HO2.out, HB2.out⟩
      case measure => simp [intOf]; omega
    · have hin : i = n := by omega
      have hfin : (r.take i).flatten = r.flatten := by rw [List.take_of_length_le (by have := HR0.out; omega)]
      rw [hfin] at ho hL
      have HO := Lib.hid ho
      have HB := Lib.hid hb
      have HL := Lib.hid hL
      have hge : ¬ (i : Int) < (n : Int) := by omega
      clear ho hb hL hfin hin
      go_wp2_with fail
      go_ret
      unfold OwnP
      rw [← HL.out]
      exact ⟨q, c, rfl, HO.out, HB.out⟩
/-- A text's words, as they are handed out. -/
def WordsP (w : World) (n : Nat) (b : List Nat) (e : Ending) (w' : World) : Prop := ∃ (q : Option Addr) (c : Nat) (xs : List Value), e = .returned (.slice q n c) ∧ OwnE w' w.heap.size (.slice q n c) xs ∧ xs.length = n ∧ (∀ (i : Nat) (y : List Nat), (wds n b)[i]? = some y → ∃ (z : Option Addr) (c' : Nat), xs[i]? = some (Value.slice z 8 c') ∧ WI 0 w' (Value.slice z 8 c') y) ∧ Below w.heap.size w w'
set_option maxRecDepth 100000 in
set_option maxHeartbeats 4000000 in
/-- A text's words. -/
theorem refWords (b : List Nat) (x : Option Addr) (L cap n : Nat) (w : World) (hs : Sees w (.slice x L cap) b) (hL : L = b.length) (hn : L = 8 * n) (h1 : 1 ≤ n) (h2 : n ≤ 20) :
    Calls Tryz.prog 32 #[.slice x L cap] w (WordsP w n b) := by
  obtain ⟨bb, bo, rfl, hbl, hcl, hcm, hc⟩ := hs.cells (fun e => by rw [e] at hL; simp at hL; omega)
  have HB : Hid (Byt b) := hs.1
  have HC : Hid (∀ i, i < b.length → w.cell? ⟨bb, bo + i, none⟩ = some (.int .u8 (at_ b i : Nat))) := hc
  have LB : Hid (bb < w.heap.size) := World.block_lt_of_cell? w _ (hc 0 (by omega))
  have HCM := Lib.hid hcm
  have HLL := Lib.hid hL
  have HN := Lib.hid hn
  have WG : Hid (∀ i, i < n → (wds n b)[i]? = some ((b.drop (8 * i)).take 8)) := fun i hi => wds_get n b i hi
  have WL : Hid ((wds n b).length = n) := (wds_ok n b (by omega) hs.1).1
  have hL6 : (L : Int) ≤ 200 := by omega
  obtain ⟨WD, hWD⟩ : ∃ WD, WD = wds n b := ⟨_, rfl⟩
  rw [← hWD] at WG WL
  have HWD := Lib.hid hWD
  clear hWD
  clear hL hn hs hc hcm hbl
  go_enter Tryz.func32, Tryz.ntmps32
  go_wp2_with fail
  go_loopw [3, 4] (fun u vi wr => ∃ (k : Nat) (q : Option Addr) (c : Nat) (xs : List Value), k ≤ n ∧ vi = .int .i64 ((8 * k : Nat) : Int) ∧ u = .slice q k c ∧ OwnE wr w.heap.size (.slice q k c) xs ∧ xs.length = k ∧ (∀ (i : Nat) (y : List Nat), i < k → WD[i]? = some y → ∃ (z : Option Addr) (c' : Nat), xs[i]? = some (Value.slice z 8 c') ∧ WI 0 wr (.slice z 8 c') y) ∧ Below w.heap.size w wr) (fun _ vi _ => L - (intOf vi).toNat)
  case atStart => exact ⟨0, none, 0, [], by omega, rfl, rfl, owne_nil _ _, rfl, fun i y h => by omega, Below.refl _ _⟩
  case round =>
    obtain ⟨k, q, c, xs, hk, rfl, rfl, ho, hxl, hw, hb⟩ := hrel
    by_cases hlt : k < n
    · have hln : 8 * k + 8 ≤ L := by have := HN.out; omega
      have sp : Sees wr (.slice (some ⟨bb, bo + 8 * k, none⟩) 8 (cap - 8 * k)) ((b.drop (8 * k)).take 8) := by
        exact sees_part (w := wr) (b := bb) (o := bo) HB.out (fun i hi => (hb.cell (p := ⟨bb, bo + i, none⟩) LB.out).trans (HC.out i hi)) (8 * k) 8 (by have := HLL.out; omega) (by omega) (cap - 8 * k) (by omega) (by have := HCM.out; omega)
      have y8 : ((b.drop (8 * k)).take 8).length = 8 := by rw [List.length_take, List.length_drop]; have := HLL.out; omega
      have CP := Lib.hid (copy _ _ (by rw [y8]; omega) wr sp)
      have WK := Lib.hid (WG.out k hlt)
      obtain ⟨i, hi8⟩ : ∃ i, i = 8 * k := ⟨_, rfl⟩
      obtain ⟨y, hy⟩ : ∃ y, y = (b.drop (8 * k)).take 8 := ⟨_, rfl⟩
      rw [← hy] at CP WK y8
      rw [← hi8] at CP hln
      have s1 := sl_part bb bo L cap i (i + 8) (by omega) (by omega) hcl
      rw [show i + 8 - i = 8 by omega] at s1
      have e16 : (((i + 8 : Nat) : Nat) : Int) = (i : Int) + 8 := by omega
      rw [e16] at s1
      have hiL : (i : Int) < (L : Int) := by omega
      have HI := Lib.hid hi8
      have HO := Lib.hid ho
      have HW := Lib.hid hw
      have HBW := Lib.hid hb
      have HXL := Lib.hid hxl
      have Y8 := Lib.hid y8
      rw [← hi8]
      clear sp e16 ho hb hi8 hw hxl hy y8
      go_wp2_with fail
      refine (CP.out).mono ?_
      rintro e w2 ⟨q1, c1, rfl, ho1, hb2⟩
      rw [Y8.out] at ho1 ⊢
      have HO2 := HO.out.below hb2
      obtain ⟨q3, c3, w3, hrun, ho3, hb3, hg3⟩ := HO2.push (by rw [HXL.out]; omega) (Nat.le_trans HBW.out.size hb2.size) q1 c1
      rw [HXL.out] at hrun ho3
      have HRU := Lib.hid hrun
      have HO3 := Lib.hid ho3
      have HB3 := Lib.hid ((HBW.out.trans (hb2.mono HBW.out.size)).trans hb3)
      have al2 : Below w2.heap.size w2 (w2.alloc (.cells #[.slice q1 8 c1] 31)) := (Below.refl _ _).alloc (Nat.le_refl _) _
      have NW : Hid (∀ v l, WI 0 w2 v l → WI 0 w3 v l) := fun v l h => (h.below al2).appendE (HO2.below al2) hg3 (Nat.zero_le _)
      have W1 : Hid (WI 0 w3 (.slice q1 8 c1) y) := NW.out _ _ (wq.own_wi ho1)
      have WO : Hid (∀ j y', j < k → WD[j]? = some y' → ∃ z c', xs[j]? = some (.slice z 8 c') ∧ WI 0 w3 (.slice z 8 c') y') := fun j y' h1 h2 => by
        obtain ⟨z, c', e1, e2⟩ := HW.out j y' h1 h2
        exact ⟨z, c', e1, NW.out _ _ (e2.below hb2)⟩
      clear hrun ho3 hb3 hg3 HO2 ho1 hb2 al2
      go_wp2_with (at_builtin; refine wpList_appK 63 rfl _ _ rfl rfl rfl rfl HRU.out ?_)
      go_roundw
      case rel =>
        have EI : i + 8 = 8 * (k + 1) := by have := HI.out; omega
        refine ⟨k + 1, q3, c3, xs ++ [.slice q1 8 c1], by omega, ?_, rfl, HO3.out, by rw [List.length_append, HXL.out]; rfl, fun j y' h1 h2 => ?_, HB3.out⟩
        · rw [← EI]; go_num
        · by_cases e : j < k
          · obtain ⟨z, c', e1, e2⟩ := WO.out j y' e h2
            exact ⟨z, c', by rw [List.getElem?_append_left (by rw [HXL.out]; exact e)]; exact e1, e2⟩
          · have ej : j = k := by omega
            subst ej
            rw [WK.out] at h2
            have e3 := Option.some.inj h2
            subst e3
            exact ⟨q1, c1, by rw [List.getElem?_append_right (by rw [HXL.out]; exact Nat.le_refl _), HXL.out, Nat.sub_self]; rfl, W1.out⟩
      case measure => have := HI.out; simp [intOf]; omega
    · have hkn : k = n := by omega
      have hnl : ¬ ((8 * k : Nat) : Int) < (L : Int) := by have := HN.out; omega
      have HO := Lib.hid ho
      have HBW := Lib.hid hb
      have HXL := Lib.hid hxl
      have HW := Lib.hid hw
      have HK := Lib.hid hkn
      obtain ⟨i, hi⟩ : ∃ i, i = 8 * k := ⟨_, rfl⟩
      rw [← hi] at hnl ⊢
      clear ho hb hkn hi hw hxl hlt
      go_wp2_with fail
      go_ret
      have hk := HK.out
      subst hk
      refine ⟨q, c, xs, rfl, HO.out, HXL.out, fun j y' h2 => ?_, HBW.out⟩
      rw [← HWD.out] at h2
      exact HW.out j y' (by have := (List.getElem?_eq_some_iff.1 h2).1; rw [WL.out] at this; exact this) h2
end Go.Proofs.YtpkeofioobmmoaaGreatDoor.ae
