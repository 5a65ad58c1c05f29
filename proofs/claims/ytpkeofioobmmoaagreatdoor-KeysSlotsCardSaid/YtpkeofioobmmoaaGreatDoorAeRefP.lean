/-
  Contracts of the document's own ciphers. Conditions: the numbers are bytes.
-/
import Derived.Test.YtpkeofioobmmoaaGreatDoorAeXtsR
import Derived.Test.YtpkeofioobmmoaaGreatDoorAeY
namespace Go.Proofs.YtpkeofioobmmoaaGreatDoor.ae
open Go.RowKit
theorem Own.drew {w : World} {base : Nat} {v : Value} {xs : List Nat} (h : Own w base v xs) : Own w.drew base v xs := h.below (Below.refl _ _).drew
/-- An append whose run is known, in a region that draws. -/
theorem step_app {ops : Array Oper} {o : Oper} {a : Act} {w : World} {K : Act → World → Prop} {Q : Exit → Act → World → Prop} {E : Prop} (hgd : o.guard = none) (s x : Operand)
    (ho : o.op = .call { callee := .builtin .append, args := #[s, x], argTypes := #[31, 31] }) (hty : o.type = 31) {v u v' : Value} {w' : World} (hs : a.eval s = v) (hx : a.eval x = u) (hr : (Builtin.append_ #[31, 31] 31 #[v, u]).run Tryz.prog w = .ok v' w')
    (hK : K (a.put o.dst v') w') : if Region.wanted o (yielded ops a.tmps) = true then Oper.wp Tryz.prog o a w K Q else E := by
  have hw : Region.wanted o (yielded ops a.tmps) = true := by simp [Region.wanted, hgd]
  rw [if_pos hw]
  unfold Oper.wp
  simp [execOp, ho, hty, resolve, invoke, builtin, hs, hx, hr, Result.andThen]
  exact hK
set_option maxRecDepth 100000 in
set_option maxHeartbeats 2000000 in
theorem refBoxes (w : World) : Calls Tryz.prog 49 #[] w (OwnP w bxs) := by
  go_enter Tryz.func49, Tryz.ntmps49
  go_wp2_with fail
  go_loopw [1, 2] (fun v vi wr => ∃ (i : Nat) (q : Option Addr) (c : Nat), i ≤ 256 ∧ vi = .int .i64 i ∧ v = .slice q i c ∧ Own wr w.heap.size (.slice q i c) (tab i box) ∧ Below w.heap.size w wr) (fun _ vi _ => 256 - (intOf vi).toNat)
  case atStart => exact ⟨0, none, 0, by omega, rfl, rfl, own_nil _ _, Below.refl _ _⟩
  case round =>
    obtain ⟨i, q, c, hi, rfl, rfl, ho, hb⟩ := hrel
    by_cases hlt : i < 256
    · have hi16 : (i : Int) < 256 := by omega
      have e8 := u8nat i hlt
      have HO := Lib.hid ho
      have HB := Lib.hid hb
      have RB : Hid (∀ W, Calls Tryz.prog 70 #[.int .u8 i] W fun e w' => e = .returned (.int .u8 (box i : Nat)) ∧ Below W.heap.size W w') := fun W => refBox i hlt W
      have bl := box_lt hlt
      clear ho hb
      go_wp2_with fail
      refine (RB.out _).mono ?_
      rintro e w2 ⟨rfl, hb⟩
      obtain ⟨q1, c1, w1, hr, ho1, hb1⟩ := (HO.out.below hb).push bl (by rw [tab_len]; omega) (Nat.le_trans HB.out.size hb.size)
      rw [← tab_succ, tab_len] at ho1
      rw [tab_len] at hr
      have HO1 := Lib.hid ho1
      have HR := Lib.hid hr
      have HB1 := Lib.hid ((HB.out.trans (hb.mono HB.out.size)).trans hb1)
      clear ho1 hr hb1 hb HO HB bl
      generalize box i = x at *
      go_wp2_with (at_builtin; refine wpList_app rfl _ _ rfl rfl rfl rfl HR.out ?_)
      go_roundw
      case rel => exact ⟨i + 1, q1, c1, by omega, by go_num, rfl, HO1.out, HB1.out⟩
      case measure => simp [intOf]; omega
    · obtain rfl : i = 256 := by omega
      have HO : Hid (Own wr w.heap.size (.slice q 256 c) bxs) := ho
      have HB := Lib.hid hb
      have hl : Hid (bxs.length = 256) := bxs_len
      clear ho hb
      go_wp2_with fail
      go_ret
      unfold OwnP
      rw [hl.out]
      exact ⟨q, c, rfl, HO.out, HB.out⟩
set_option maxRecDepth 100000 in
set_option maxHeartbeats 2000000 in
theorem refUnbox (a : Nat) (ha : a < 256) (x : Option Addr) (cap : Nat) (w : World) (hs : Sees w (.slice x 256 cap) bxs) : Calls Tryz.prog 50 #[.slice x 256 cap, .int .u8 a] w fun e w' => e = .returned (.int .u8 (at_ kxs a : Nat)) ∧ w = w' := by
  have hne : bxs ≠ [] := fun e => by have := bxs_len; rw [e] at this; simp at this
  obtain ⟨b, o, rfl, hlx, hcl, hcm, hc⟩ := hs.cells hne
  have HC : Hid (∀ i, i < 256 → w.cell? ⟨b, o + i, none⟩ = some (.int .u8 (box i : Nat))) := fun i hi => by rw [hc i (by rw [bxs_len]; exact hi), bxs_at hi]
  have HA : Hid (box (at_ kxs a) = a) := bk ha
  have HL : Hid (at_ kxs a < 256) := kxs_bts.at_lt a
  have BX : Hid (∀ i, i < 256 → box i < 256) := fun i hi => box_lt hi
  have BI : Hid (∀ i, i < 256 → box i = a → i = at_ kxs a) := fun i hi h => by rw [← h, kb hi]
  clear hlx hcl hcm hc hs hne
  go_enter Tryz.func50, Tryz.ntmps50
  go_wp2_with fail
  go_loop [4, 5] (fun _ vi => ∃ i : Nat, i ≤ 256 ∧ vi = .int .i64 i ∧ i ≤ at_ kxs a) (fun _ vi => 256 - (intOf vi).toNat)
  case atStart => exact ⟨0, by omega, rfl, by omega⟩
  case round =>
    obtain ⟨i, hi, rfl, hle⟩ := hrel
    have hlt : i < 256 := by have := HL.out; omega
    have hi16 : (i : Int) < 256 := by omega
    have cx := HC.out i hlt
    have e8 := u8nat i hlt
    have bl := BX.out i hlt
    by_cases he : box i = a
    · have hk := BI.out i hlt he
      have ha2 : ((box i : Nat) : Int) = (a : Int) := by rw [he]
      have HK := Lib.hid hk
      have hq : (((box i : Nat) : Int) == (a : Int)) = true := by rw [ha2]; simp
      have HH := Lib.hid ha2
      clear he hk ha2
      generalize box i = z at *
      go_wp2_with fail
      go_ret
      refine ⟨?_, rfl⟩
      rw [← HK.out]
      rfl
    · have hq : (((box i : Nat) : Int) == (a : Int)) = false := by simp; omega
      have hne : i ≠ at_ kxs a := fun h => he (by rw [h]; exact HA.out)
      have H2 : Hid (i + 1 ≤ at_ kxs a) := by show _ ≤ _; omega
      clear he hne hle
      generalize box i = z at *
      go_wp2_with fail
      go_round
      case rel => exact ⟨i + 1, by omega, by go_num, H2.out⟩
      case measure => simp [intOf]; omega
/-- What lies in memory of the document's cipher: its boxes. -/
def boxl (xs : List Nat) : List Nat := tab xs.length fun i => box (at_ xs i)
theorem boxl_len (xs : List Nat) : (boxl xs).length = xs.length := tab_len _ _
set_option maxRecDepth 100000 in
set_option maxHeartbeats 4000000 in
theorem refBoxed (g : Nat) (y : Option Addr) (cy : Nat) (x : Option Addr) (L cap : Nat) (xs : List Nat) (w : World) (hL : L = xs.length) (h4 : L ≤ 100) (hg : w.cell? ⟨g, 1, none⟩ = some (.slice y 256 cy)) (hy : Sees w (.slice y 256 cy) bxs) (hs : Sees w (.slice x L cap) xs) :
    Calls Tryz.prog 51 #[.pointer (some ⟨g, 0, none⟩), .slice x L cap] w (OwnP w (boxl xs)) := by
  have hne : bxs ≠ [] := fun e => by have := bxs_len; rw [e] at this; simp at this
  obtain ⟨b, o, rfl, hlx, hcl, hcm, hc⟩ := hy.cells hne
  have HC : Hid (∀ i, i < 256 → w.cell? ⟨b, o + i, none⟩ = some (.int .u8 (box i : Nat))) := fun i hi => by rw [hc i (by rw [bxs_len]; exact hi), bxs_at hi]
  have LBX : Hid (b < w.heap.size) := World.block_lt_of_cell? w _ (HC.out 0 (by omega))
  have LG : Hid (g < w.heap.size) := World.block_lt_of_cell? w _ hg
  have HG := Lib.hid hg
  have HLX := Lib.hid hL
  have HY := Lib.hid hs.1
  have HS : Hid (∀ i, i < L → ∃ bb oo, x = some ⟨bb, oo, none⟩ ∧ bb < w.heap.size ∧ w.cell? ⟨bb, oo + i, none⟩ = some (.int .u8 (at_ xs i : Nat))) := fun i hi => by
    obtain ⟨bb, oo, h1, _, _, _, h5⟩ := hs.cells (fun e => by rw [e] at hL; simp at hL; omega)
    exact ⟨bb, oo, h1, World.block_lt_of_cell? w _ (h5 i (by omega)), h5 i (by omega)⟩
  have hLi : (L : Int) ≤ 100 := by omega
  have OL : Hid (tab L (fun i => box (at_ xs i)) = boxl xs) := by show _ = _; rw [hL]; rfl
  clear hne hlx hcl hcm hc hy hg hs hL
  go_enter Tryz.func51, Tryz.ntmps51
  go_wp2_with fail
  go_loopw [5, 6] (fun v vi wr => ∃ (i : Nat) (q : Option Addr) (c : Nat), i ≤ L ∧ vi = .int .i64 i ∧ v = .slice q i c ∧ Own wr w.heap.size (.slice q i c) (tab i (fun i => box (at_ xs i))) ∧ Below w.heap.size w wr) (fun _ vi _ => L - (intOf vi).toNat)
  case atStart => exact ⟨0, none, 0, by omega, rfl, rfl, own_nil _ _, Below.refl _ _⟩
  case round =>
    obtain ⟨i, q, c, hi, rfl, rfl, ho, hb⟩ := hrel
    by_cases hlt : i < L
    · obtain ⟨bb, oo, rfl, LBB, hcx⟩ := HS.out i hlt
      have hi16 : (i : Int) < (L : Int) := by omega
      have xl := HY.out.at i
      have CX := Lib.hid hcx
      have LBBh := Lib.hid LBB
      have CB := Lib.hid (HC.out _ xl)
      obtain ⟨q1, c1, w1, hr, ho1, hb1⟩ := ho.drew.push (x := box (at_ xs i)) (box_lt xl) (by rw [tab_len]; omega) hb.size
      rw [← tab_succ i (fun i => box (at_ xs i)), tab_len] at ho1
      rw [tab_len] at hr
      have HO1 := Lib.hid ho1
      have HR := Lib.hid hr
      have HBB := Lib.hid hb
      have HB2 := Lib.hid (hb.drew.trans hb1)
      clear ho1 hr hb1 ho hb LBB hcx
      generalize box (at_ xs i) = z at *
      generalize at_ xs i = e at *
      have xl' : (e : Int) < 256 := by omega
      go_wp2_with fail
      refine wp_region_held_drew (S := fun W => Below w.heap.size w W) (by kernel_rfl) HBB.out.drew (fun hS => ?_)
      refine' wpAnyH_take (i := 0) ?h1x0p ?hsx0p ?hfx0p ?hrx0p ?hQx0p (Or.inl ⟨?hwx0p, ?hyx0p⟩) hS ?restx0p
      case h1x0p => (simp only [List.getElem?_toArray, List.getElem?_cons_zero]; rfl)
      case hsx0p | hfx0p | hrx0p => kernel_rfl
      case hQx0p => exact fun _ _ _ h => h
      case hwx0p => rfl
      case hyx0p =>
        intro W hW
        go_simp
        try with_reducible rfl
      simp only [Act.put, List.setIfInBounds_toArray, List.set_cons_succ, List.set_cons_zero]
      refine' wpAnyH_take (i := 1) ?h1x1p ?hsx1p ?hfx1p ?hrx1p ?hQx1p (Or.inl ⟨?hwx1p, ?hyx1p⟩) hS ?restx1p
      case h1x1p => (simp only [List.getElem?_toArray, List.getElem?_cons_succ, List.getElem?_cons_zero]; rfl)
      case hsx1p | hfx1p | hrx1p => kernel_rfl
      case hQx1p => exact fun _ _ _ h => h
      case hwx1p => rfl
      case hyx1p =>
        intro W hW
        go_simp
        try with_reducible rfl
      simp only [Act.put, List.setIfInBounds_toArray, List.set_cons_succ, List.set_cons_zero]
      refine' wpAnyH_take (i := 2) ?h1x2p ?hsx2p ?hfx2p ?hrx2p ?hQx2p (Or.inl ⟨?hwx2p, ?hyx2p⟩) hS ?restx2p
      case h1x2p => (simp only [List.getElem?_toArray, List.getElem?_cons_succ, List.getElem?_cons_zero]; rfl)
      case hsx2p | hfx2p | hrx2p => kernel_rfl
      case hQx2p => exact fun _ _ _ h => h
      case hwx2p => rfl
      case hyx2p =>
        intro W hW
        go_simp
        try with_reducible rfl
      simp only [Act.put, List.setIfInBounds_toArray, List.set_cons_succ, List.set_cons_zero]
      refine' wpAnyH_take (i := 3) ?h1x3p ?hsx3p ?hfx3p ?hrx3p ?hQx3p (Or.inl ⟨?hwx3p, ?hyx3p⟩) hS ?restx3p
      case h1x3p => (simp only [List.getElem?_toArray, List.getElem?_cons_succ, List.getElem?_cons_zero]; rfl)
      case hsx3p | hfx3p | hrx3p => kernel_rfl
      case hQx3p => exact fun _ _ _ h => h
      case hwx3p => rfl
      case hyx3p =>
        intro W hW
        go_simp
        try with_reducible rfl
      simp only [Act.put, List.setIfInBounds_toArray, List.set_cons_succ, List.set_cons_zero]
      refine' wpAnyH_take (i := 4) ?h1x4p ?hsx4p ?hfx4p ?hrx4p ?hQx4p (Or.inl ⟨?hwx4p, ?hyx4p⟩) hS ?restx4p
      case h1x4p => (simp only [List.getElem?_toArray, List.getElem?_cons_succ, List.getElem?_cons_zero]; rfl)
      case hsx4p | hfx4p | hrx4p => kernel_rfl
      case hQx4p => exact fun _ _ _ h => h
      case hwx4p => rfl
      case hyx4p =>
        intro W hW
        have dd := (hW.cell (p := ⟨g, 1, none⟩) LG.out).trans HG.out
        go_simp
        try with_reducible rfl
      simp only [Act.put, List.setIfInBounds_toArray, List.set_cons_succ, List.set_cons_zero]
      refine' wpAnyH_take (i := 5) ?h1x5p ?hsx5p ?hfx5p ?hrx5p ?hQx5p (Or.inl ⟨?hwx5p, ?hyx5p⟩) hS ?restx5p
      case h1x5p => (simp only [List.getElem?_toArray, List.getElem?_cons_succ, List.getElem?_cons_zero]; rfl)
      case hsx5p | hfx5p | hrx5p => kernel_rfl
      case hQx5p => exact fun _ _ _ h => h
      case hwx5p => rfl
      case hyx5p =>
        intro W hW
        go_simp
        try with_reducible rfl
      simp only [Act.put, List.setIfInBounds_toArray, List.set_cons_succ, List.set_cons_zero]
      refine' wpAnyH_take (i := 6) ?h1x6p ?hsx6p ?hfx6p ?hrx6p ?hQx6p (Or.inl ⟨?hwx6p, ?hyx6p⟩) hS ?restx6p
      case h1x6p => (simp only [List.getElem?_toArray, List.getElem?_cons_succ, List.getElem?_cons_zero]; rfl)
      case hsx6p | hfx6p | hrx6p => kernel_rfl
      case hQx6p => exact fun _ _ _ h => h
      case hwx6p => rfl
      case hyx6p =>
        intro W hW
        go_simp
        try with_reducible rfl
      simp only [Act.put, List.setIfInBounds_toArray, List.set_cons_succ, List.set_cons_zero]
      refine' wpAnyH_take (i := 7) ?h1x7p ?hsx7p ?hfx7p ?hrx7p ?hQx7p (Or.inl ⟨?hwx7p, ?hyx7p⟩) hS ?restx7p
      case h1x7p => (simp only [List.getElem?_toArray, List.getElem?_cons_succ, List.getElem?_cons_zero]; rfl)
      case hsx7p | hfx7p | hrx7p => kernel_rfl
      case hQx7p => exact fun _ _ _ h => h
      case hwx7p => rfl
      case hyx7p =>
        intro W hW
        go_simp
        try with_reducible rfl
      simp only [Act.put, List.setIfInBounds_toArray, List.set_cons_succ, List.set_cons_zero]
      refine' wpAnyH_take (i := 8) ?h1x8p ?hsx8p ?hfx8p ?hrx8p ?hQx8p (Or.inl ⟨?hwx8p, ?hyx8p⟩) hS ?restx8p
      case h1x8p => (simp only [List.getElem?_toArray, List.getElem?_cons_succ, List.getElem?_cons_zero]; rfl)
      case hsx8p | hfx8p | hrx8p => kernel_rfl
      case hQx8p => exact fun _ _ _ h => h
      case hwx8p => rfl
      case hyx8p =>
        intro W hW
        have dd := (hW.cell (p := ⟨bb, oo + i, none⟩) LBBh.out).trans CX.out
        go_simp
        try with_reducible rfl
      simp only [Act.put, List.setIfInBounds_toArray, List.set_cons_succ, List.set_cons_zero]
      refine' wpAnyH_take (i := 9) ?h1x9p ?hsx9p ?hfx9p ?hrx9p ?hQx9p (Or.inl ⟨?hwx9p, ?hyx9p⟩) hS ?restx9p
      case h1x9p => (simp only [List.getElem?_toArray, List.getElem?_cons_succ, List.getElem?_cons_zero]; rfl)
      case hsx9p | hfx9p | hrx9p => kernel_rfl
      case hQx9p => exact fun _ _ _ h => h
      case hwx9p => rfl
      case hyx9p =>
        intro W hW
        go_simp
        try with_reducible rfl
      simp only [Act.put, List.setIfInBounds_toArray, List.set_cons_succ, List.set_cons_zero]
      refine' wpAnyH_take (i := 10) ?h1x10p ?hsx10p ?hfx10p ?hrx10p ?hQx10p (Or.inl ⟨?hwx10p, ?hyx10p⟩) hS ?restx10p
      case h1x10p => (simp only [List.getElem?_toArray, List.getElem?_cons_succ, List.getElem?_cons_zero]; rfl)
      case hsx10p | hfx10p | hrx10p => kernel_rfl
      case hQx10p => exact fun _ _ _ h => h
      case hwx10p => rfl
      case hyx10p =>
        intro W hW
        have dd := (hW.cell (p := ⟨b, o + e, none⟩) LBX.out).trans CB.out
        go_simp
        try with_reducible rfl
      simp only [Act.put, List.setIfInBounds_toArray, List.set_cons_succ, List.set_cons_zero]
      refine wpAnyH_ready (rs := [11]) (by kernel_rfl) (by simp) ?_
      refine' AllReadyH.cons ?hoc11p (fun K hK => ?stc11p) AllReadyH.nil
      case hoc11p => (simp only [List.getElem?_toArray, List.getElem?_cons_succ, List.getElem?_cons_zero]; rfl)
      go_simp
      refine hK.out _ _ (hS.alloc hS.size _) (fun hHeld => ?_)
      clear hK K
      try simp only [Act.put, List.setIfInBounds_toArray, List.set_cons_succ, List.set_cons_zero]
      clear hS
      have hS := hHeld
      clear hHeld
      refine wpAnyH_ready (rs := [12]) (by kernel_rfl) (by simp) ?_
      refine' AllReadyH.cons ?hoc12p (fun K hK => ?stc12p) AllReadyH.nil
      case hoc12p => (simp only [List.getElem?_toArray, List.getElem?_cons_succ, List.getElem?_cons_zero]; rfl)
      refine step_app rfl _ _ rfl rfl rfl rfl HR.out ?_
      refine hK.out _ _ HB2.out (fun hHeld => ?_)
      clear hK K
      try simp only [Act.put, List.setIfInBounds_toArray, List.set_cons_succ, List.set_cons_zero]
      clear hS
      have hS := hHeld
      clear hHeld
      refine' wpAnyH_take (i := 13) ?h1x13p ?hsx13p ?hfx13p ?hrx13p ?hQx13p (Or.inl ⟨?hwx13p, ?hyx13p⟩) hS ?restx13p
      case h1x13p => (simp only [List.getElem?_toArray, List.getElem?_cons_succ, List.getElem?_cons_zero]; rfl)
      case hsx13p | hfx13p | hrx13p => kernel_rfl
      case hQx13p => exact fun _ _ _ h => h
      case hwx13p => rfl
      case hyx13p =>
        intro W hW
        go_simp
        try with_reducible rfl
      simp only [Act.put, List.setIfInBounds_toArray, List.set_cons_succ, List.set_cons_zero]
      refine wpAnyH_done (by kernel_rfl) ?_ _
      go_wp2_with fail
      go_roundw
      case rel => exact ⟨i + 1, q1, c1, by omega, by go_num, rfl, HO1.out, HB2.out⟩
      case measure => simp [intOf]; omega
    · obtain rfl : i = L := by omega
      rw [OL.out] at ho
      have HO := Lib.hid ho
      have HB := Lib.hid hb
      have hl : Hid ((boxl xs).length = i) := by show _ = _; rw [boxl_len, HLX.out]
      clear ho hb
      go_wp2_with fail
      go_ret
      unfold OwnP
      rw [hl.out]
      exact ⟨q, c, rfl, HO.out, HB.out⟩
/-- Two texts xor'ed, as far as the first goes. -/
def xorl (n : Nat) (xs ys : List Nat) : List Nat := tab n fun i => Nat.xor (at_ xs i) (at_ ys i)
set_option maxRecDepth 100000 in
set_option maxHeartbeats 4000000 in
theorem refXored (x : Option Addr) (L cap : Nat) (xs : List Nat) (y : Option Addr) (M cy : Nat) (ys : List Nat) (w : World) (hL : L = xs.length) (hM : M = ys.length) (h4 : L ≤ 100) (hLM : L ≤ M) (hs : Sees w (.slice x L cap) xs) (hy : Sees w (.slice y M cy) ys) :
    Calls Tryz.prog 53 #[.slice x L cap, .slice y M cy] w (OwnP w (xorl L xs ys)) := by
  have HX := Lib.hid hs.1
  have HY := Lib.hid hy.1
  have HS : Hid (∀ i, i < L → ∃ bb oo, x = some ⟨bb, oo, none⟩ ∧ bb < w.heap.size ∧ w.cell? ⟨bb, oo + i, none⟩ = some (.int .u8 (at_ xs i : Nat))) := fun i hi => by
    obtain ⟨bb, oo, h1, _, _, _, h5⟩ := hs.cells (fun e => by rw [e] at hL; simp at hL; omega)
    exact ⟨bb, oo, h1, World.block_lt_of_cell? w _ (h5 i (by omega)), h5 i (by omega)⟩
  have HT : Hid (∀ i, i < L → ∃ bb oo, y = some ⟨bb, oo, none⟩ ∧ bb < w.heap.size ∧ w.cell? ⟨bb, oo + i, none⟩ = some (.int .u8 (at_ ys i : Nat))) := fun i hi => by
    obtain ⟨bb, oo, h1, _, _, _, h5⟩ := hy.cells (fun e => by rw [e] at hM; simp at hM; omega)
    exact ⟨bb, oo, h1, World.block_lt_of_cell? w _ (h5 i (by omega)), h5 i (by omega)⟩
  have hLi : (L : Int) ≤ 100 := by omega
  have hLMi : (L : Int) ≤ (M : Int) := by omega
  clear hs hy hL hM
  go_enter Tryz.func53, Tryz.ntmps53
  go_wp2_with fail
  go_loopw [5, 6] (fun v vi wr => ∃ (i : Nat) (q : Option Addr) (c : Nat), i ≤ L ∧ vi = .int .i64 i ∧ v = .slice q i c ∧ Own wr w.heap.size (.slice q i c) (xorl i xs ys) ∧ Below w.heap.size w wr) (fun _ vi _ => L - (intOf vi).toNat)
  case atStart => exact ⟨0, none, 0, by omega, rfl, rfl, own_nil _ _, Below.refl _ _⟩
  case round =>
    obtain ⟨i, q, c, hi, rfl, rfl, ho, hb⟩ := hrel
    by_cases hlt : i < L
    · obtain ⟨bb, oo, rfl, LBB, hcx⟩ := HS.out i hlt
      obtain ⟨bc, oc, rfl, LBC, hcy⟩ := HT.out i hlt
      have hiM : i < M := by omega
      have hi16 : (i : Int) < (L : Int) := by omega
      have xl := HX.out.at i
      have yl := HY.out.at i
      have CX := Lib.hid hcx
      have CY := Lib.hid hcy
      have LBBh := Lib.hid LBB
      have LBCh := Lib.hid LBC
      have X8 := Lib.hid (xor8 (at_ xs i) (at_ ys i) xl yl)
      obtain ⟨q1, c1, w1, hr, ho1, hb1⟩ := ho.drew.push (x := Nat.xor (at_ xs i) (at_ ys i)) (xor_lt xl yl) (by rw [xorl, tab_len]; omega) hb.size
      rw [xorl, ← tab_succ i (fun i => Nat.xor (at_ xs i) (at_ ys i)), tab_len] at ho1
      rw [xorl, tab_len] at hr
      have HO1 := Lib.hid ho1
      have HR := Lib.hid hr
      have HBB := Lib.hid hb
      have HB2 := Lib.hid (hb.drew.trans hb1)
      clear ho1 hr hb1 ho hb LBB hcx LBC hcy
      generalize Nat.xor (at_ xs i) (at_ ys i) = z at *
      generalize at_ xs i = e at *
      generalize at_ ys i = f at *
      go_wp2_with fail
      refine wp_region_held_drew (S := fun W => Below w.heap.size w W) (by kernel_rfl) HBB.out.drew (fun hS => ?_)
      refine' wpAnyH_take (i := 0) ?h1x0p ?hsx0p ?hfx0p ?hrx0p ?hQx0p (Or.inl ⟨?hwx0p, ?hyx0p⟩) hS ?restx0p
      case h1x0p => (simp only [List.getElem?_toArray, List.getElem?_cons_zero]; rfl)
      case hsx0p | hfx0p | hrx0p => kernel_rfl
      case hQx0p => exact fun _ _ _ h => h
      case hwx0p => rfl
      case hyx0p =>
        intro W hW
        go_simp
        try with_reducible rfl
      simp only [Act.put, List.setIfInBounds_toArray, List.set_cons_succ, List.set_cons_zero]
      refine' wpAnyH_take (i := 1) ?h1x1p ?hsx1p ?hfx1p ?hrx1p ?hQx1p (Or.inl ⟨?hwx1p, ?hyx1p⟩) hS ?restx1p
      case h1x1p => (simp only [List.getElem?_toArray, List.getElem?_cons_succ, List.getElem?_cons_zero]; rfl)
      case hsx1p | hfx1p | hrx1p => kernel_rfl
      case hQx1p => exact fun _ _ _ h => h
      case hwx1p => rfl
      case hyx1p =>
        intro W hW
        go_simp
        try with_reducible rfl
      simp only [Act.put, List.setIfInBounds_toArray, List.set_cons_succ, List.set_cons_zero]
      refine' wpAnyH_take (i := 2) ?h1x2p ?hsx2p ?hfx2p ?hrx2p ?hQx2p (Or.inl ⟨?hwx2p, ?hyx2p⟩) hS ?restx2p
      case h1x2p => (simp only [List.getElem?_toArray, List.getElem?_cons_succ, List.getElem?_cons_zero]; rfl)
      case hsx2p | hfx2p | hrx2p => kernel_rfl
      case hQx2p => exact fun _ _ _ h => h
      case hwx2p => rfl
      case hyx2p =>
        intro W hW
        go_simp
        try with_reducible rfl
      simp only [Act.put, List.setIfInBounds_toArray, List.set_cons_succ, List.set_cons_zero]
      refine' wpAnyH_take (i := 3) ?h1x3p ?hsx3p ?hfx3p ?hrx3p ?hQx3p (Or.inl ⟨?hwx3p, ?hyx3p⟩) hS ?restx3p
      case h1x3p => (simp only [List.getElem?_toArray, List.getElem?_cons_succ, List.getElem?_cons_zero]; rfl)
      case hsx3p | hfx3p | hrx3p => kernel_rfl
      case hQx3p => exact fun _ _ _ h => h
      case hwx3p => rfl
      case hyx3p =>
        intro W hW
        go_simp
        try with_reducible rfl
      simp only [Act.put, List.setIfInBounds_toArray, List.set_cons_succ, List.set_cons_zero]
      refine' wpAnyH_take (i := 4) ?h1x4p ?hsx4p ?hfx4p ?hrx4p ?hQx4p (Or.inl ⟨?hwx4p, ?hyx4p⟩) hS ?restx4p
      case h1x4p => (simp only [List.getElem?_toArray, List.getElem?_cons_succ, List.getElem?_cons_zero]; rfl)
      case hsx4p | hfx4p | hrx4p => kernel_rfl
      case hQx4p => exact fun _ _ _ h => h
      case hwx4p => rfl
      case hyx4p =>
        intro W hW
        have dd := (hW.cell (p := ⟨bb, oo + i, none⟩) LBBh.out).trans CX.out
        go_simp
        try with_reducible rfl
      simp only [Act.put, List.setIfInBounds_toArray, List.set_cons_succ, List.set_cons_zero]
      refine' wpAnyH_take (i := 5) ?h1x5p ?hsx5p ?hfx5p ?hrx5p ?hQx5p (Or.inl ⟨?hwx5p, ?hyx5p⟩) hS ?restx5p
      case h1x5p => (simp only [List.getElem?_toArray, List.getElem?_cons_succ, List.getElem?_cons_zero]; rfl)
      case hsx5p | hfx5p | hrx5p => kernel_rfl
      case hQx5p => exact fun _ _ _ h => h
      case hwx5p => rfl
      case hyx5p =>
        intro W hW
        go_simp
        try with_reducible rfl
      simp only [Act.put, List.setIfInBounds_toArray, List.set_cons_succ, List.set_cons_zero]
      refine' wpAnyH_take (i := 6) ?h1x6p ?hsx6p ?hfx6p ?hrx6p ?hQx6p (Or.inl ⟨?hwx6p, ?hyx6p⟩) hS ?restx6p
      case h1x6p => (simp only [List.getElem?_toArray, List.getElem?_cons_succ, List.getElem?_cons_zero]; rfl)
      case hsx6p | hfx6p | hrx6p => kernel_rfl
      case hQx6p => exact fun _ _ _ h => h
      case hwx6p => rfl
      case hyx6p =>
        intro W hW
        go_simp
        try with_reducible rfl
      simp only [Act.put, List.setIfInBounds_toArray, List.set_cons_succ, List.set_cons_zero]
      refine' wpAnyH_take (i := 7) ?h1x7p ?hsx7p ?hfx7p ?hrx7p ?hQx7p (Or.inl ⟨?hwx7p, ?hyx7p⟩) hS ?restx7p
      case h1x7p => (simp only [List.getElem?_toArray, List.getElem?_cons_succ, List.getElem?_cons_zero]; rfl)
      case hsx7p | hfx7p | hrx7p => kernel_rfl
      case hQx7p => exact fun _ _ _ h => h
      case hwx7p => rfl
      case hyx7p =>
        intro W hW
        go_simp
        try with_reducible rfl
      simp only [Act.put, List.setIfInBounds_toArray, List.set_cons_succ, List.set_cons_zero]
      refine' wpAnyH_take (i := 8) ?h1x8p ?hsx8p ?hfx8p ?hrx8p ?hQx8p (Or.inl ⟨?hwx8p, ?hyx8p⟩) hS ?restx8p
      case h1x8p => (simp only [List.getElem?_toArray, List.getElem?_cons_succ, List.getElem?_cons_zero]; rfl)
      case hsx8p | hfx8p | hrx8p => kernel_rfl
      case hQx8p => exact fun _ _ _ h => h
      case hwx8p => rfl
      case hyx8p =>
        intro W hW
        have dd := (hW.cell (p := ⟨bc, oc + i, none⟩) LBCh.out).trans CY.out
        go_simp
        try with_reducible rfl
      simp only [Act.put, List.setIfInBounds_toArray, List.set_cons_succ, List.set_cons_zero]
      refine' wpAnyH_take (i := 9) ?h1x9p ?hsx9p ?hfx9p ?hrx9p ?hQx9p (Or.inl ⟨?hwx9p, ?hyx9p⟩) hS ?restx9p
      case h1x9p => (simp only [List.getElem?_toArray, List.getElem?_cons_succ, List.getElem?_cons_zero]; rfl)
      case hsx9p | hfx9p | hrx9p => kernel_rfl
      case hQx9p => exact fun _ _ _ h => h
      case hwx9p => rfl
      case hyx9p =>
        intro W hW
        have dd := X8.out
        go_simp
        try with_reducible rfl
      simp only [Act.put, List.setIfInBounds_toArray, List.set_cons_succ, List.set_cons_zero]
      refine wpAnyH_ready (rs := [10]) (by kernel_rfl) (by simp) ?_
      refine' AllReadyH.cons ?hoc10p (fun K hK => ?stc10p) AllReadyH.nil
      case hoc10p => (simp only [List.getElem?_toArray, List.getElem?_cons_succ, List.getElem?_cons_zero]; rfl)
      go_simp
      refine hK.out _ _ (hS.alloc hS.size _) (fun hHeld => ?_)
      clear hK K
      try simp only [Act.put, List.setIfInBounds_toArray, List.set_cons_succ, List.set_cons_zero]
      clear hS
      have hS := hHeld
      clear hHeld
      refine wpAnyH_ready (rs := [11]) (by kernel_rfl) (by simp) ?_
      refine' AllReadyH.cons ?hoc11p (fun K hK => ?stc11p) AllReadyH.nil
      case hoc11p => (simp only [List.getElem?_toArray, List.getElem?_cons_succ, List.getElem?_cons_zero]; rfl)
      refine step_app rfl _ _ rfl rfl rfl rfl HR.out ?_
      refine hK.out _ _ HB2.out (fun hHeld => ?_)
      clear hK K
      try simp only [Act.put, List.setIfInBounds_toArray, List.set_cons_succ, List.set_cons_zero]
      clear hS
      have hS := hHeld
      clear hHeld
      refine' wpAnyH_take (i := 12) ?h1x12p ?hsx12p ?hfx12p ?hrx12p ?hQx12p (Or.inl ⟨?hwx12p, ?hyx12p⟩) hS ?restx12p
      case h1x12p => (simp only [List.getElem?_toArray, List.getElem?_cons_succ, List.getElem?_cons_zero]; rfl)
      case hsx12p | hfx12p | hrx12p => kernel_rfl
      case hQx12p => exact fun _ _ _ h => h
      case hwx12p => rfl
      case hyx12p =>
        intro W hW
        go_simp
        try with_reducible rfl
      simp only [Act.put, List.setIfInBounds_toArray, List.set_cons_succ, List.set_cons_zero]
      refine wpAnyH_done (by kernel_rfl) ?_ _
      go_wp2_with fail
      go_roundw
      case rel => exact ⟨i + 1, q1, c1, by omega, by go_num, rfl, HO1.out, HB2.out⟩
      case measure => simp [intOf]; omega
    · obtain rfl : i = L := by omega
      have HO := Lib.hid ho
      have HB := Lib.hid hb
      have hl : Hid ((xorl i xs ys).length = i) := tab_len _ _
      clear ho hb
      go_wp2_with fail
      go_ret
      unfold OwnP
      rw [hl.out]
      exact ⟨q, c, rfl, HO.out, HB.out⟩
open Go.RowKit
/-- Sixteen bytes in a row. -/
def At16 (w : World) (b o : Nat) (xs : List Nat) (n : Nat) : Prop := ∀ i, i < n → w.cell? ⟨b, o + i, none⟩ = some (.int .u8 (at_ xs i : Nat))
set_option maxRecDepth 100000 in
theorem Sees.at16 {w : World} {x : Option Addr} {n cap : Nat} {xs : List Nat} (h : Sees w (.slice x n cap) xs) (h0 : 0 < xs.length) : ∃ b o, x = some ⟨b, o, none⟩ ∧ n = xs.length ∧ n ≤ cap ∧ cap ≤ maxLen ∧ At16 w b o xs xs.length := by
  obtain ⟨b, o, h1, h2, h3, h4, h5⟩ := h.cells (fun e => by rw [e] at h0; simp at h0)
  exact ⟨b, o, h1, h2, h3, h4, h5⟩
set_option maxRecDepth 100000 in
set_option maxHeartbeats 4000000 in
theorem refRows (x : Option Addr) (cap : Nat) (xs : List Nat) (w : World) (hB : Bts 16 xs) (hs : Sees w (.slice x 16 cap) xs) : Calls Tryz.prog 56 #[.slice x 16 cap] w (OwnP w (mv 1 xs)) := by
  obtain ⟨b, o, rfl, hlx, hcl, hcm, hc⟩ := hs.at16 (by rw [hB.1]; omega)
  have HC : Hid (∀ i, i < 16 → w.cell? ⟨b, o + i, none⟩ = some (.int .u8 (at_ xs i : Nat))) := fun i hi => hc i (by rw [hB.1]; exact hi)
  have LB : Hid (b < w.heap.size) := World.block_lt_of_cell? w _ (HC.out 0 (by omega))
  have HBY := Lib.hid hB
  have hl : Hid ((mv 1 xs).length = 16) := tab_len _ _
  clear hlx hcl hcm hc hs hB
  go_enter Tryz.func56, Tryz.ntmps56
  go_wp2_with fail
  go_loopw [3, 4, 5] (fun v vi _ wr => ∃ (c : Nat) (q : Option Addr) (cp : Nat), c ≤ 4 ∧ vi = .int .i64 c ∧ v = .slice q (4 * c) cp ∧ Own wr w.heap.size (.slice q (4 * c) cp) (tab (4 * c) (fun i => at_ xs ((i + 4 * 1 * (i % 4)) % 16))) ∧ Below w.heap.size w wr) (fun _ vi _ _ => 4 - (intOf vi).toNat)
  case atStart => exact ⟨0, none, 0, by omega, rfl, rfl, own_nil _ _, Below.refl _ _⟩
  case round =>
    obtain ⟨c, q, cp, hi, rfl, rfl, ho, hb⟩ := hrel
    by_cases hlt : c < 4
    · obtain ⟨wo, rfl⟩ : ∃ wo : World, wo = wr := ⟨_, rfl⟩
      have hi16 : (c : Int) < 4 := by omega
      have HO := Lib.hid ho
      have HB := Lib.hid hb
      clear ho hb
      obtain ⟨l0, hl0⟩ : ∃ l, l = 4 * c := ⟨_, rfl⟩
      have HO2 : Hid (Own wo w.heap.size (.slice q l0 cp) (tab l0 (fun i => at_ xs ((i + 4 * 1 * (i % 4)) % 16)))) := by rw [hl0]; exact HO.out
      rw [← hl0]
      have HL0 := Lib.hid hl0
      clear HO hl0
      go_wp2_with fail
      go_loopw [3, 5] (fun v vi wr => ∃ (r : Nat) (q : Option Addr) (cp : Nat), r ≤ 4 ∧ vi = .int .i64 r ∧ v = .slice q (l0 + r) cp ∧ Own wr w.heap.size (.slice q (l0 + r) cp) (tab (l0 + r) (fun i => at_ xs ((i + 4 * 1 * (i % 4)) % 16))) ∧ Below w.heap.size w wr) (fun _ vi _ => 4 - (intOf vi).toNat)
      case atStart => exact ⟨0, q, cp, by omega, rfl, rfl, HO2.out, HB.out⟩
      case round =>
        clear HO2 HB
        obtain ⟨r, q, cp, hr4, rfl, rfl, ho, hb⟩ := hrel
        by_cases hlr : r < 4
        · have hr16 : (r : Int) < 4 := by omega
          obtain ⟨qq, hqq⟩ : ∃ qq, qq = (c + r) % 4 := ⟨_, rfl⟩
          obtain ⟨j, hj⟩ : ∃ j, j = 4 * qq + r := ⟨_, rfl⟩
          have e1 : ((c : Int) + (r : Int)) % 4 = (qq : Int) := by omega
          have e2 : 4 * (qq : Int) + (r : Int) = (j : Int) := by omega
          have q4 : (qq : Int) < 4 := by omega
          have j16 : j < 16 := by omega
          have ej : (l0 + r + 4 * 1 * ((l0 + r) % 4)) % 16 = j := by have := HL0.out; omega
          have cx := (hb.cell (p := ⟨b, o + j, none⟩) LB.out).trans (HC.out j j16)
          have xl := HBY.out.at_lt j
          obtain ⟨q1, c1, w1, hrun, ho1, hb1⟩ := ho.push (x := at_ xs ((l0 + r + 4 * 1 * ((l0 + r) % 4)) % 16)) (by rw [ej]; exact xl) (by rw [tab_len]; have := HL0.out; omega) hb.size
          rw [← tab_succ (l0 + r) (fun i => at_ xs ((i + 4 * 1 * (i % 4)) % 16)), tab_len] at ho1
          rw [tab_len, ej] at hrun
          have HO1 := Lib.hid ho1
          have HR := Lib.hid hrun
          have HB1 := Lib.hid (hb.trans hb1)
          clear ho1 hrun hb1 ho hb hqq hj ej
          generalize at_ xs j = z at *
          go_wp2_with (at_builtin; refine wpList_app rfl _ _ rfl rfl rfl rfl HR.out ?_)
          go_roundw
          case rel => exact ⟨r + 1, q1, c1, by omega, by go_num, rfl, HO1.out, HB1.out⟩
          case measure => simp [intOf]; omega
        · obtain rfl : r = 4 := by omega
          have HO := Lib.hid ho
          have HB := Lib.hid hb
          clear ho hb
          go_wp2_with fail
          go_roundw
          case rel =>
            have e : l0 + 4 = 4 * (c + 1) := by have := HL0.out; omega
            exact ⟨c + 1, q, cp, by omega, by go_num, by rw [e], by rw [← e]; exact HO.out, HB.out⟩
          case measure => simp [intOf]; omega
    · obtain rfl : c = 4 := by omega
      have HO : Hid (Own wr w.heap.size (.slice q 16 cp) (mv 1 xs)) := ho
      have HB := Lib.hid hb
      clear ho hb
      go_wp2_with fail
      go_ret
      unfold OwnP
      rw [hl.out]
      exact ⟨q, cp, rfl, HO.out, HB.out⟩
/-- The sum of the first k products for place i of a column. -/
def cacc (f xs : List Nat) (i : Nat) : Nat → Nat
  | 0 => 0
  | k + 1 => Nat.xor (cacc f xs i k) (mul (at_ f k) (at_ xs ((i + k) % 4)))
set_option maxRecDepth 100000 in
theorem cacc_lt {f xs : List Nat} (hf : Bts 4 f) (i : Nat) : ∀ k, cacc f xs i k < 256
  | 0 => by show 0 < 256; omega
  | k + 1 => xor_lt (cacc_lt hf i k) (mul_lt _ (hf.at_lt _))
def coll (f xs : List Nat) : List Nat := tab 4 fun i => cacc f xs i 4
set_option maxRecDepth 100000 in
set_option maxHeartbeats 4000000 in
theorem refColumn (x : Option Addr) (cap : Nat) (xs : List Nat) (y : Option Addr) (cy : Nat) (f : List Nat) (w : World) (hX : Bts 4 xs) (hF : Bts 4 f) (hs : Sees w (.slice x 4 cap) xs) (hy : Sees w (.slice y 4 cy) f) :
    Calls Tryz.prog 72 #[.slice x 4 cap, .slice y 4 cy] w (OwnP w (coll f xs)) := by
  obtain ⟨b, o, rfl, k1, k2, k3, hc⟩ := hs.at16 (by rw [hX.1]; omega)
  obtain ⟨b2, o2, rfl, k4, k5, k6, hc2⟩ := hy.at16 (by rw [hF.1]; omega)
  have HC : Hid (∀ i, i < 4 → w.cell? ⟨b, o + i, none⟩ = some (.int .u8 (at_ xs i : Nat))) := fun i hi => hc i (by rw [hX.1]; exact hi)
  have HC2 : Hid (∀ i, i < 4 → w.cell? ⟨b2, o2 + i, none⟩ = some (.int .u8 (at_ f i : Nat))) := fun i hi => hc2 i (by rw [hF.1]; exact hi)
  have LB : Hid (b < w.heap.size) := World.block_lt_of_cell? w _ (HC.out 0 (by omega))
  have LB2 : Hid (b2 < w.heap.size) := World.block_lt_of_cell? w _ (HC2.out 0 (by omega))
  have HX := Lib.hid hX
  have HF := Lib.hid hF
  have hl : Hid ((coll f xs).length = 4) := tab_len _ _
  clear k1 k2 k3 k4 k5 k6 hc hc2 hs hy hX hF
  go_enter Tryz.func72, Tryz.ntmps72
  go_wp2_with fail
  go_loopw [5, 6, 7, 8] (fun v vi _ _ wr => ∃ (i : Nat) (q : Option Addr) (cp : Nat), i ≤ 4 ∧ vi = .int .i64 i ∧ v = .slice q i cp ∧ Own wr w.heap.size (.slice q i cp) (tab i (fun i => cacc f xs i 4)) ∧ Below w.heap.size w wr) (fun _ vi _ _ _ => 4 - (intOf vi).toNat)
  case atStart => exact ⟨0, none, 0, by omega, rfl, rfl, own_nil _ _, Below.refl _ _⟩
  case round =>
    obtain ⟨i, q, cp, hi, rfl, rfl, ho, hb⟩ := hrel
    by_cases hlt : i < 4
    · obtain ⟨wo, rfl⟩ : ∃ wo : World, wo = wr := ⟨_, rfl⟩
      have hi16 : (i : Int) < 4 := by omega
      have HO := Lib.hid ho
      have HB := Lib.hid hb
      clear ho hb
      go_wp2_with fail
      go_loopw [7, 8] (fun vn vk wr => ∃ (k : Nat), k ≤ 4 ∧ vk = .int .i64 k ∧ vn = .int .u8 (cacc f xs i k : Nat) ∧ Own wr w.heap.size (.slice q i cp) (tab i (fun i => cacc f xs i 4)) ∧ Below w.heap.size w wr) (fun _ vk _ => 4 - (intOf vk).toNat)
      case atStart => exact ⟨0, by omega, rfl, rfl, HO.out, HB.out⟩
      case round =>
        clear HO HB
        obtain ⟨k, hk, rfl, rfl, ho, hb⟩ := hrel
        by_cases hlk : k < 4
        · have hk16 : (k : Int) < 4 := by omega
          obtain ⟨j, hj⟩ : ∃ j, j = (i + k) % 4 := ⟨_, rfl⟩
          have j4 : j < 4 := by omega
          have j4' : (j : Int) < 4 := by omega
          have ej : ((i : Int) + (k : Int)) % 4 = (j : Int) := by omega
          have e1 : IntKind.i64.wrap ((i : Int) + (k : Int)) = (i : Int) + (k : Int) := IntWalk.i64_in _ (by omega)
          have e3 : ((i : Int) + (k : Int)).tmod 4 = (j : Int) := by rw [Int.tmod_eq_emod_of_nonneg (by omega)]; exact ej
          have e4 : IntKind.i64.wrap (j : Int) = (j : Int) := IntWalk.i64_in _ (by omega)
          have C1 := Lib.hid (HC.out j j4)
          have C2 := Lib.hid (HC2.out k hlk)
          have fl := HF.out.at_lt k
          have xl := HX.out.at_lt j
          have x8 := xor8 (cacc f xs i k) (mul (at_ f k) (at_ xs j)) (cacc_lt HF.out i k) (mul_lt _ fl)
          have ca : cacc f xs i (k + 1) = Nat.xor (cacc f xs i k) (mul (at_ f k) (at_ xs j)) := by rw [cacc, hj]
          rw [← ca] at x8
          have X8 := Lib.hid x8
          clear x8 ca
          have RM := Lib.hid (refMul (at_ f k) (at_ xs j) fl xl)
          have HO := Lib.hid ho
          have HBB := Lib.hid hb
          clear ho hb hj
          generalize mul (at_ f k) (at_ xs j) = m at *
          generalize at_ f k = fk at *
          generalize at_ xs j = xj at *
          obtain ⟨nn, hnn⟩ : ∃ n, n = cacc f xs i (k + 1) := ⟨_, rfl⟩
          rw [← hnn] at X8
          have CA := Lib.hid hnn
          clear hnn
          generalize cacc f xs i k = n0 at *
          go_wp2_with fail
          refine wp_region_held_drew (S := fun W => Below w.heap.size w W ∧ Own W w.heap.size (.slice q i cp) (tab i (fun i => cacc f xs i 4))) (by kernel_rfl) ⟨HBB.out.drew, HO.out.drew⟩ (fun hS => ?_)
          refine' wpAnyH_take (i := 0) ?h1x0p ?hsx0p ?hfx0p ?hrx0p ?hQx0p (Or.inl ⟨?hwx0p, ?hyx0p⟩) hS ?restx0p
          case h1x0p => (simp only [List.getElem?_toArray, List.getElem?_cons_zero]; rfl)
          case hsx0p | hfx0p | hrx0p => kernel_rfl
          case hQx0p => exact fun _ _ _ h => h
          case hwx0p => rfl
          case hyx0p =>
            intro W hW
            go_simp
            try with_reducible rfl
          simp only [Act.put, List.setIfInBounds_toArray, List.set_cons_succ, List.set_cons_zero]
          refine' wpAnyH_take (i := 1) ?h1x1p ?hsx1p ?hfx1p ?hrx1p ?hQx1p (Or.inl ⟨?hwx1p, ?hyx1p⟩) hS ?restx1p
          case h1x1p => (simp only [List.getElem?_toArray, List.getElem?_cons_succ, List.getElem?_cons_zero]; rfl)
          case hsx1p | hfx1p | hrx1p => kernel_rfl
          case hQx1p => exact fun _ _ _ h => h
          case hwx1p => rfl
          case hyx1p =>
            intro W hW
            go_simp
            try with_reducible rfl
          simp only [Act.put, List.setIfInBounds_toArray, List.set_cons_succ, List.set_cons_zero]
          refine' wpAnyH_take (i := 2) ?h1x2p ?hsx2p ?hfx2p ?hrx2p ?hQx2p (Or.inl ⟨?hwx2p, ?hyx2p⟩) hS ?restx2p
          case h1x2p => (simp only [List.getElem?_toArray, List.getElem?_cons_succ, List.getElem?_cons_zero]; rfl)
          case hsx2p | hfx2p | hrx2p => kernel_rfl
          case hQx2p => exact fun _ _ _ h => h
          case hwx2p => rfl
          case hyx2p =>
            intro W hW
            go_simp
            try with_reducible rfl
          simp only [Act.put, List.setIfInBounds_toArray, List.set_cons_succ, List.set_cons_zero]
          refine' wpAnyH_take (i := 3) ?h1x3p ?hsx3p ?hfx3p ?hrx3p ?hQx3p (Or.inl ⟨?hwx3p, ?hyx3p⟩) hS ?restx3p
          case h1x3p => (simp only [List.getElem?_toArray, List.getElem?_cons_succ, List.getElem?_cons_zero]; rfl)
          case hsx3p | hfx3p | hrx3p => kernel_rfl
          case hQx3p => exact fun _ _ _ h => h
          case hwx3p => rfl
          case hyx3p =>
            intro W hW
            go_simp
            try with_reducible rfl
          simp only [Act.put, List.setIfInBounds_toArray, List.set_cons_succ, List.set_cons_zero]
          refine' wpAnyH_take (i := 4) ?h1x4p ?hsx4p ?hfx4p ?hrx4p ?hQx4p (Or.inl ⟨?hwx4p, ?hyx4p⟩) hS ?restx4p
          case h1x4p => (simp only [List.getElem?_toArray, List.getElem?_cons_succ, List.getElem?_cons_zero]; rfl)
          case hsx4p | hfx4p | hrx4p => kernel_rfl
          case hQx4p => exact fun _ _ _ h => h
          case hwx4p => rfl
          case hyx4p =>
            intro W hW
            have dd := (hW.1.cell (p := ⟨b2, o2 + k, none⟩) LB2.out).trans C2.out
            go_simp
            try with_reducible rfl
          simp only [Act.put, List.setIfInBounds_toArray, List.set_cons_succ, List.set_cons_zero]
          refine' wpAnyH_take (i := 5) ?h1x5p ?hsx5p ?hfx5p ?hrx5p ?hQx5p (Or.inl ⟨?hwx5p, ?hyx5p⟩) hS ?restx5p
          case h1x5p => (simp only [List.getElem?_toArray, List.getElem?_cons_succ, List.getElem?_cons_zero]; rfl)
          case hsx5p | hfx5p | hrx5p => kernel_rfl
          case hQx5p => exact fun _ _ _ h => h
          case hwx5p => rfl
          case hyx5p =>
            intro W hW
            go_simp
            try with_reducible rfl
          simp only [Act.put, List.setIfInBounds_toArray, List.set_cons_succ, List.set_cons_zero]
          refine' wpAnyH_take (i := 6) ?h1x6p ?hsx6p ?hfx6p ?hrx6p ?hQx6p (Or.inl ⟨?hwx6p, ?hyx6p⟩) hS ?restx6p
          case h1x6p => (simp only [List.getElem?_toArray, List.getElem?_cons_succ, List.getElem?_cons_zero]; rfl)
          case hsx6p | hfx6p | hrx6p => kernel_rfl
          case hQx6p => exact fun _ _ _ h => h
          case hwx6p => rfl
          case hyx6p =>
            intro W hW
            go_simp
            try with_reducible rfl
          simp only [Act.put, List.setIfInBounds_toArray, List.set_cons_succ, List.set_cons_zero]
          refine' wpAnyH_take (i := 7) ?h1x7p ?hsx7p ?hfx7p ?hrx7p ?hQx7p (Or.inl ⟨?hwx7p, ?hyx7p⟩) hS ?restx7p
          case h1x7p => (simp only [List.getElem?_toArray, List.getElem?_cons_succ, List.getElem?_cons_zero]; rfl)
          case hsx7p | hfx7p | hrx7p => kernel_rfl
          case hQx7p => exact fun _ _ _ h => h
          case hwx7p => rfl
          case hyx7p =>
            intro W hW
            go_simp
            try with_reducible rfl
          simp only [Act.put, List.setIfInBounds_toArray, List.set_cons_succ, List.set_cons_zero]
          refine' wpAnyH_take (i := 8) ?h1x8p ?hsx8p ?hfx8p ?hrx8p ?hQx8p (Or.inl ⟨?hwx8p, ?hyx8p⟩) hS ?restx8p
          case h1x8p => (simp only [List.getElem?_toArray, List.getElem?_cons_succ, List.getElem?_cons_zero]; rfl)
          case hsx8p | hfx8p | hrx8p => kernel_rfl
          case hQx8p => exact fun _ _ _ h => h
          case hwx8p => rfl
          case hyx8p =>
            intro W hW
            go_simp
            try with_reducible rfl
          simp only [Act.put, List.setIfInBounds_toArray, List.set_cons_succ, List.set_cons_zero]
          refine' wpAnyH_take (i := 9) ?h1x9p ?hsx9p ?hfx9p ?hrx9p ?hQx9p (Or.inl ⟨?hwx9p, ?hyx9p⟩) hS ?restx9p
          case h1x9p => (simp only [List.getElem?_toArray, List.getElem?_cons_succ, List.getElem?_cons_zero]; rfl)
          case hsx9p | hfx9p | hrx9p => kernel_rfl
          case hQx9p => exact fun _ _ _ h => h
          case hwx9p => rfl
          case hyx9p =>
            intro W hW
            go_simp
            try with_reducible rfl
          simp only [Act.put, List.setIfInBounds_toArray, List.set_cons_succ, List.set_cons_zero]
          refine' wpAnyH_take (i := 10) ?h1x10p ?hsx10p ?hfx10p ?hrx10p ?hQx10p (Or.inl ⟨?hwx10p, ?hyx10p⟩) hS ?restx10p
          case h1x10p => (simp only [List.getElem?_toArray, List.getElem?_cons_succ, List.getElem?_cons_zero]; rfl)
          case hsx10p | hfx10p | hrx10p => kernel_rfl
          case hQx10p => exact fun _ _ _ h => h
          case hwx10p => rfl
          case hyx10p =>
            intro W hW
            go_simp
            try with_reducible rfl
          simp only [Act.put, List.setIfInBounds_toArray, List.set_cons_succ, List.set_cons_zero]
          refine' wpAnyH_take (i := 11) ?h1x11p ?hsx11p ?hfx11p ?hrx11p ?hQx11p (Or.inl ⟨?hwx11p, ?hyx11p⟩) hS ?restx11p
          case h1x11p => (simp only [List.getElem?_toArray, List.getElem?_cons_succ, List.getElem?_cons_zero]; rfl)
          case hsx11p | hfx11p | hrx11p => kernel_rfl
          case hQx11p => exact fun _ _ _ h => h
          case hwx11p => rfl
          case hyx11p =>
            intro W hW
            have dd := (hW.1.cell (p := ⟨b, o + j, none⟩) LB.out).trans C1.out
            go_simp
            try with_reducible rfl
          simp only [Act.put, List.setIfInBounds_toArray, List.set_cons_succ, List.set_cons_zero]
          refine wpAnyH_ready (rs := [12]) (by kernel_rfl) (by simp) ?_
          refine' AllReadyH.cons ?hoc12p (fun K hK => ?stc12p) AllReadyH.nil
          case hoc12p => (simp only [List.getElem?_toArray, List.getElem?_cons_succ, List.getElem?_cons_zero]; rfl)
          go_simp
          refine (RM.out _).mono ?_
          rintro e w' ⟨rfl, rfl⟩
          go_wp2_with fail
          refine hK.out _ _ hS (fun hHeld => ?_)
          clear hK K
          try simp only [Act.put, List.setIfInBounds_toArray, List.set_cons_succ, List.set_cons_zero]
          clear hS
          have hS := hHeld
          clear hHeld
          refine' wpAnyH_take (i := 13) ?h1x13p ?hsx13p ?hfx13p ?hrx13p ?hQx13p (Or.inl ⟨?hwx13p, ?hyx13p⟩) hS ?restx13p
          case h1x13p => (simp only [List.getElem?_toArray, List.getElem?_cons_succ, List.getElem?_cons_zero]; rfl)
          case hsx13p | hfx13p | hrx13p => kernel_rfl
          case hQx13p => exact fun _ _ _ h => h
          case hwx13p => rfl
          case hyx13p =>
            intro W hW
            have dd := X8.out
            go_simp
            try with_reducible rfl
          simp only [Act.put, List.setIfInBounds_toArray, List.set_cons_succ, List.set_cons_zero]
          refine' wpAnyH_take (i := 14) ?h1x14p ?hsx14p ?hfx14p ?hrx14p ?hQx14p (Or.inl ⟨?hwx14p, ?hyx14p⟩) hS ?restx14p
          case h1x14p => (simp only [List.getElem?_toArray, List.getElem?_cons_succ, List.getElem?_cons_zero]; rfl)
          case hsx14p | hfx14p | hrx14p => kernel_rfl
          case hQx14p => exact fun _ _ _ h => h
          case hwx14p => rfl
          case hyx14p =>
            intro W hW
            go_simp
            try with_reducible rfl
          simp only [Act.put, List.setIfInBounds_toArray, List.set_cons_succ, List.set_cons_zero]
          refine wpAnyH_done (by kernel_rfl) ?_ _
          go_wp2_with fail
          go_roundw
          case rel => exact ⟨k + 1, by omega, by go_num, by rw [CA.out], hS.2, hS.1⟩
          case measure => simp [intOf]; omega
        · obtain rfl : k = 4 := by omega
          have cl := cacc_lt (xs := xs) HF.out i 4
          obtain ⟨q1, c1, w1, hrun, ho1, hb1⟩ := ho.push (x := cacc f xs i 4) cl (by rw [tab_len]; omega) hb.size
          rw [← tab_succ i (fun i => cacc f xs i 4), tab_len] at ho1
          rw [tab_len] at hrun
          have HO1 := Lib.hid ho1
          have HR := Lib.hid hrun
          have HB1 := Lib.hid (hb.trans hb1)
          clear ho1 hrun hb1 ho hb cl
          generalize cacc f xs i 4 = z at *
          go_wp2_with (at_builtin; refine wpList_app rfl _ _ rfl rfl rfl rfl HR.out ?_)
          go_roundw
          case rel => exact ⟨i + 1, q1, c1, by omega, by go_num, rfl, HO1.out, HB1.out⟩
          case measure => simp [intOf]; omega
    · obtain rfl : i = 4 := by omega
      have HO : Hid (Own wr w.heap.size (.slice q 4 cp) (coll f xs)) := ho
      have HB := Lib.hid hb
      clear ho hb
      go_wp2_with fail
      go_ret
      unfold OwnP
      rw [hl.out]
      exact ⟨q, cp, rfl, HO.out, HB.out⟩
open Go.RowKit
set_option maxRecDepth 100000 in
theorem sl_part (b o l cap i j : Nat) (hij : i < j) (hj : j ≤ l) (hc : l ≤ cap) (W : World) : (Instr.slice 31 (.slice (some ⟨b, o, none⟩) l cap) (some (.int .i64 i)) (some (.int .i64 j)) none).run Tryz.prog W = .ok (.slice (some ⟨b, o + i, none⟩) (j - i) (cap - i)) W := by
  rw [run_slice_lh W 31 (some ⟨b, o, none⟩) l cap (by kernel_rfl) .i64 .i64 i j (by omega) (by omega) (by omega), size5']
  have e : ¬ cap = i := by omega
  simp [Result.andThen, sliced, e, addr_add]
set_option maxRecDepth 100000 in
theorem coll_mx (f0 f1 f2 f3 : Nat) (h0 : f0 < 256) (h1 : f1 < 256) (h2 : f2 < 256) (h3 : f3 < 256) {xs : List Nat} (hx : Bts 16 xs) (c : Nat) (hc : c < 4) : coll [f0, f1, f2, f3] ((xs.drop (4 * c)).take 4) = tab 4 fun i => at_ (mx f0 f1 f2 f3 xs) (4 * c + i) := by
  have hp : ∀ j, j < 4 → at_ ((xs.drop (4 * c)).take 4) j = at_ xs (4 * c + j) := fun j hj => by simp [at_, List.getD, hj]
  unfold coll
  refine tab_congr fun i hi => ?_
  rw [mx_at f0 f1 f2 f3 xs (4 * c) i (by omega) (by omega) hi]
  show Nat.xor (Nat.xor (Nat.xor (Nat.xor 0 (mul f0 _)) (mul f1 _)) (mul f2 _)) (mul f3 _) = _
  rw [zx, Nat.add_zero, hp _ (Nat.mod_lt _ (by omega)), hp _ (Nat.mod_lt _ (by omega)), hp _ (Nat.mod_lt _ (by omega)), hp _ (Nat.mod_lt _ (by omega))]
  rw [comm h0 (hx.at_lt _), comm h1 (hx.at_lt _), comm h2 (hx.at_lt _), comm h3 (hx.at_lt _)]
set_option maxRecDepth 100000 in
theorem tab_add (n m : Nat) (f : Nat → Nat) : tab n f ++ tab m (fun i => f (n + i)) = tab (n + m) f := by
  unfold tab
  rw [List.range_add, List.map_append, List.map_map]
  rfl
set_option maxRecDepth 100000 in
set_option maxHeartbeats 4000000 in
theorem refColumns (f0 f1 f2 f3 : Nat) (h0 : f0 < 256) (h1 : f1 < 256) (h2 : f2 < 256) (h3 : f3 < 256) (x : Option Addr) (cap : Nat) (xs : List Nat) (y : Option Addr) (cy : Nat) (w : World) (hX : Bts 16 xs) (hs : Sees w (.slice x 16 cap) xs) (hy : Sees w (.slice y 4 cy) [f0, f1, f2, f3]) :
    Calls Tryz.prog 55 #[.slice x 16 cap, .slice y 4 cy] w (OwnP w (mx f0 f1 f2 f3 xs)) := by
  obtain ⟨b, o, rfl, k1, k2, k3, hc⟩ := hs.at16 (by rw [hX.1]; omega)
  have LB : Hid (b < w.heap.size) := World.block_lt_of_cell? w _ (hc 0 (by rw [hX.1]; omega))
  have HC := Lib.hid hc
  have HX := Lib.hid hX
  have HY := Lib.hid hy
  have hcap := k2
  have HCM := Lib.hid k3
  have hl : Hid ((mx f0 f1 f2 f3 xs).length = 16) := tab_len _ _
  have CM : Hid (∀ c, c < 4 → coll [f0, f1, f2, f3] ((xs.drop (4 * c)).take 4) = tab 4 fun i => at_ (mx f0 f1 f2 f3 xs) (4 * c + i)) := fun c hc => coll_mx f0 f1 f2 f3 h0 h1 h2 h3 hX c hc
  have HF : Hid (Bts 4 [f0, f1, f2, f3]) := ⟨rfl, fun z hz => by simp at hz; omega⟩
  have MS : Hid (tab 16 (at_ (mx f0 f1 f2 f3 xs)) = mx f0 f1 f2 f3 xs) := tab_self 16 _ (tab_len _ _)
  generalize mx f0 f1 f2 f3 xs = M at *
  generalize [f0, f1, f2, f3] = ff at *
  clear k1 k2 k3 hc hs hy hX h0 h1 h2 h3
  go_enter Tryz.func55, Tryz.ntmps55
  go_wp2_with fail
  go_loopw [5, 6] (fun v vi wr => ∃ (c : Nat) (q : Option Addr) (cp : Nat), c ≤ 4 ∧ vi = .int .i64 ((4 * c : Nat) : Int) ∧ v = .slice q (4 * c) cp ∧ Own wr w.heap.size (.slice q (4 * c) cp) (tab (4 * c) (at_ M)) ∧ Below w.heap.size w wr) (fun _ vi _ => 16 - (intOf vi).toNat)
  case atStart => exact ⟨0, none, 0, by omega, rfl, rfl, own_nil _ _, Below.refl _ _⟩
  case round =>
    obtain ⟨c, q, cp, hi, rfl, rfl, ho, hb⟩ := hrel
    by_cases hlt : c < 4
    · have cm := CM.out c hlt
      have sp : Sees wr (.slice (some ⟨b, o + 4 * c, none⟩) 4 (cap - 4 * c)) ((xs.drop (4 * c)).take 4) :=
        sees_part HX.out.2 (fun i hi => (hb.cell (p := ⟨b, o + i, none⟩) LB.out).trans (HC.out i hi)) (4 * c) 4 (by rw [HX.out.1]; omega) (by omega) _ (by omega) (by have := HCM.out; omega)
      have hp : Bts 4 ((xs.drop (4 * c)).take 4) := ⟨by rw [List.length_take, List.length_drop, HX.out.1]; omega, sp.1⟩
      have RC := Lib.hid (refColumn _ _ _ _ _ _ wr hp HF.out sp (HY.out.below hb))
      have hcl : (coll ff ((xs.drop (4 * c)).take 4)).length = 4 := tab_len _ _
      have HO := Lib.hid ho
      have HB := Lib.hid hb
      obtain ⟨i, hi4⟩ : ∃ i, i = 4 * c := ⟨_, rfl⟩
      have s1 := sl_part b o 16 cap i (i + 4) (by omega) (by omega) hcap
      rw [show i + 4 - i = 4 by omega] at s1
      have e4 : (((i + 4 : Nat) : Nat) : Int) = (i : Int) + 4 := by omega
      rw [e4] at s1
      rw [← hi4] at RC HO cm hcl ⊢
      have hi16 : (i : Int) < 16 := by omega
      have HI := Lib.hid hi4
      clear ho hb sp hp hi4 e4
      go_wp2_with fail
      refine (RC.out).mono ?_
      rintro e w2 ⟨q2, c2, rfl, ho2, hb2⟩
      rw [hcl] at ho2 ⊢
      have ho3 := (HO.out.below hb2)
      obtain ⟨q1, c1, w1, hrun, ho1, _, hb1⟩ := app ho3 ho2.sees (by rw [tab_len, hcl]; omega) (Nat.le_trans HB.out.size hb2.size)
      rw [tab_len, hcl] at hrun ho1
      have HR := Lib.hid hrun
      have HB1 := Lib.hid ((HB.out.trans (hb2.mono HB.out.size)).trans hb1)
      have HO1 : Hid (Own w1 w.heap.size (.slice q1 (i + 4) c1) (tab (i + 4) (at_ M))) := by
        rw [cm, tab_add i 4] at ho1
        exact ho1
      clear hrun ho1 hb1 ho3 ho2 hb2 cm hcl
      go_wp2_with (at_builtin; refine wpList_app rfl _ _ rfl rfl rfl rfl HR.out ?_)
      go_roundw
      case rel =>
        have e : i + 4 = 4 * (c + 1) := by have := HI.out; omega
        refine ⟨c + 1, q1, c1, by omega, ?_, by rw [e], by rw [← e]; exact HO1.out, HB1.out⟩
        rw [← e]; congr 1
      case measure => simp [intOf]; omega
    · obtain rfl : c = 4 := by omega
      have HO : Hid (Own wr w.heap.size (.slice q 16 cp) M) := by rw [← MS.out]; exact ho
      have HB := Lib.hid hb
      clear ho hb
      go_wp2_with fail
      go_ret
      unfold OwnP
      rw [hl.out]
      exact ⟨q, cp, rfl, HO.out, HB.out⟩
/-- The words of a key lie behind block bw. -/
def SeesL (w : World) (bw n : Nat) (key : List Nat) : Prop := ∀ i, i < n → ∃ x c, w.cell? ⟨bw, i, none⟩ = some (.slice x 4 c) ∧ Sees w (.slice x 4 c) (lat (wk key 60) i)
set_option maxRecDepth 100000 in
theorem SeesL.below {w w' : World} {bw n : Nat} {key : List Nat} (h : SeesL w bw n key) (hb : Below w.heap.size w w') : SeesL w' bw n key := fun i hi => by
  obtain ⟨x, c, h1, h2⟩ := h i hi
  exact ⟨x, c, (hb.cell (p := ⟨bw, i, none⟩) (World.block_lt_of_cell? w _ h1)).trans h1, h2.below hb⟩
/-- The document's cipher of a key. -/
def RC (w : World) (g : Nat) (key : List Nat) : Prop := ∃ bw cw y cy z cz, w.heap[g]? = some (.cells #[.slice (some ⟨bw, 0, none⟩) 60 cw, .slice y 256 cy, .slice z 256 cz] 91 (0, 0)) ∧ SeesL w bw 60 key ∧ Sees w (.slice y 256 cy) bxs ∧ Sees w (.slice z 256 cz) kxs
set_option maxRecDepth 100000 in
theorem RC.below {w w' : World} {g : Nat} {key : List Nat} (h : RC w g key) (hb : Below w.heap.size w w') : RC w' g key := by
  obtain ⟨bw, cw, y, cy, z, cz, h1, h2, h3, h4⟩ := h
  exact ⟨bw, cw, y, cy, z, cz, (hb.block _ (blk_lt h1)).trans h1, h2.below hb, h3.below hb, h4.below hb⟩
set_option maxRecDepth 100000 in
set_option maxHeartbeats 4000000 in
theorem refRound (g : Nat) (key : List Nat) (r : Nat) (hr : r ≤ 14) (w : World) (hk : Bts 32 key) (hc : RC w g key) : Calls Tryz.prog 54 #[.pointer (some ⟨g, 0, none⟩), .int .i64 r] w (OwnP w (rkey key r)) := by
  obtain ⟨bw, cw, y, cy, z, cz, hg, hL, _, _⟩ := hc
  have HG := Lib.hid hg
  have LG := Lib.hid (blk_lt hg)
  have HL := Lib.hid hL
  have C0 : Hid (w.cell? ⟨g, 0, none⟩ = some (.slice (some ⟨bw, 0, none⟩) 60 cw)) := cell_of_row _ _ 0 _ _ _ hg
  have hl : Hid ((rkey key r).length = 16) := tab_len _ _
  have HW : Hid (∀ k, k < 4 → lat (wk key 60) (4 * r + k) = tab 4 fun i => at_ (rkey key r) (4 * k + i)) := fun k hk4 => by
    refine Eq.trans (tab_self 4 _ (nextw_bts4 hk (4 * r + k) (by omega)).1).symm (tab_congr fun i hi => ?_)
    rw [rkey, tab_at _ _ _ (by omega), show 4 * r + (4 * k + i) / 4 = 4 * r + k by omega, show (4 * k + i) % 4 = i by omega]
  have MS : Hid (tab 16 (at_ (rkey key r)) = rkey key r) := tab_self 16 _ (tab_len _ _)
  generalize rkey key r = M at *
  have hr14 : (r : Int) ≤ 14 := by omega
  clear hL hg hk
  go_enter Tryz.func54, Tryz.ntmps54
  go_wp2_with fail
  go_loopw [5, 6] (fun v vi wr => ∃ (k : Nat) (q : Option Addr) (cp : Nat), k ≤ 4 ∧ vi = .int .i64 ((4 * r + k : Nat) : Int) ∧ v = .slice q (4 * k) cp ∧ Own wr w.heap.size (.slice q (4 * k) cp) (tab (4 * k) (at_ M)) ∧ Below w.heap.size w wr) (fun _ vi _ => 4 * r + 4 - (intOf vi).toNat)
  case atStart => exact ⟨0, none, 0, by omega, by go_num, rfl, own_nil _ _, Below.refl _ _⟩
  case round =>
    obtain ⟨k, q, cp, hi, rfl, rfl, ho, hb⟩ := hrel
    by_cases hlt : k < 4
    · obtain ⟨j, hj⟩ : ∃ j, j = 4 * r + k := ⟨_, rfl⟩
      obtain ⟨x, c, hx, hsx⟩ := HL.out j (by omega)
      have hwk := HW.out k hlt
      rw [← hj] at hwk ⊢
      rw [hwk] at hsx
      have cx := (hb.cell (p := ⟨bw, j, none⟩) (World.block_lt_of_cell? w _ hx)).trans hx
      have c0 := (hb.cell (p := ⟨g, 0, none⟩) LG.out).trans C0.out
      have j1 : (j : Int) < 4 * (r : Int) + 4 := by omega
      have j60 : j < 60 := by omega
      obtain ⟨q1, c1, w1, hrun, ho1, _, hb1⟩ := app ho (hsx.below hb) (by rw [tab_len, tab_len]; omega) hb.size
      rw [tab_len, tab_len, tab_add] at ho1
      rw [tab_len, tab_len] at hrun
      have HR := Lib.hid hrun
      have HB1 := Lib.hid (hb.trans hb1)
      have HO1 := Lib.hid ho1
      have HJ := Lib.hid hj
      clear hrun ho1 hb1 ho hb hx hsx hj hwk
      go_wp2_with (at_builtin; refine wpList_app rfl _ _ rfl rfl rfl rfl HR.out ?_)
      go_roundw
      case rel =>
        refine ⟨k + 1, q1, c1, by omega, ?_, rfl, HO1.out, HB1.out⟩
        congr 1; have := HJ.out; omega
      case measure => simp [intOf]; omega
    · obtain rfl : k = 4 := by omega
      have HO : Hid (Own wr w.heap.size (.slice q 16 cp) M) := by rw [← MS.out]; exact ho
      have HB := Lib.hid hb
      have j1 : ¬ ((4 * r + 4 : Nat) : Int) < 4 * (r : Int) + 4 := by omega
      clear ho hb
      go_wp2_with fail
      go_ret
      unfold OwnP
      rw [hl.out]
      exact ⟨q, cp, rfl, HO.out, HB.out⟩
open Go.RowKit
/-- Sixteen bytes that a call hands out. -/
def SP (w : World) (xs : List Nat) (e : Ending) (w' : World) : Prop := ∃ x c, e = .returned (.slice x 16 c) ∧ Sees w' (.slice x 16 c) xs ∧ Below w.heap.size w w'
set_option maxRecDepth 100000 in
theorem OwnP.sp {w w' : World} {xs : List Nat} {e : Ending} (h : OwnP w xs e w') (hl : xs.length = 16) : SP w xs e w' := by
  obtain ⟨x, c, h1, h2, h3⟩ := h
  rw [hl] at h1 h2
  exact ⟨x, c, h1, h2.sees, h3⟩
set_option maxRecDepth 100000 in
theorem boxl_sb {S : List Nat} (h : Bts 16 S) : boxl S = sb bxs S := by
  unfold boxl sb
  rw [h.1]
  exact tab_congr fun i _ => (bxs_at (h.at_lt i)).symm
set_option maxRecDepth 100000 in
theorem spBoxed {g : Nat} {key S : List Nat} {x : Option Addr} {c : Nat} {W : World} (hr : RC W g key) (hS : Bts 16 S) (hs : Sees W (.slice x 16 c) S) : Calls Tryz.prog 51 #[.pointer (some ⟨g, 0, none⟩), .slice x 16 c] W (SP W (sb bxs S)) := by
  obtain ⟨bw, cw, y, cy, z, cz, hg, _, hy, _⟩ := hr
  have h := refBoxed g y cy x 16 c S W hS.1.symm (by omega) (cell_of_row _ _ 1 _ _ _ hg) hy hs
  rw [boxl_sb hS] at h
  exact h.mono fun _ _ h => h.sp (tab_len _ _)
set_option maxRecDepth 100000 in
theorem spRows {S : List Nat} {x : Option Addr} {c : Nat} {W : World} (hS : Bts 16 S) (hs : Sees W (.slice x 16 c) S) : Calls Tryz.prog 56 #[.slice x 16 c] W (SP W (mv 1 S)) :=
  (refRows x c S W hS hs).mono fun _ _ h => h.sp (tab_len _ _)
set_option maxRecDepth 100000 in
theorem spCols (f0 f1 f2 f3 : Nat) (h0 : f0 < 256) (h1 : f1 < 256) (h2 : f2 < 256) (h3 : f3 < 256) {S : List Nat} {x y : Option Addr} {c cy : Nat} {W : World} (hS : Bts 16 S) (hs : Sees W (.slice x 16 c) S) (hy : Sees W (.slice y 4 cy) [f0, f1, f2, f3]) : Calls Tryz.prog 55 #[.slice x 16 c, .slice y 4 cy] W (SP W (mx f0 f1 f2 f3 S)) :=
  (refColumns f0 f1 f2 f3 h0 h1 h2 h3 x c S y cy W hS hs hy).mono fun _ _ h => h.sp (tab_len _ _)
set_option maxRecDepth 100000 in
theorem spRound {g : Nat} {key : List Nat} {W : World} (r : Nat) (hr : r ≤ 14) (hk : Bts 32 key) (hc : RC W g key) : Calls Tryz.prog 54 #[.pointer (some ⟨g, 0, none⟩), .int .i64 r] W (SP W (rkey key r)) :=
  (refRound g key r hr W hk hc).mono fun _ _ h => h.sp (tab_len _ _)
set_option maxRecDepth 100000 in
theorem spXor {S K : List Nat} {x y : Option Addr} {c cy : Nat} {W : World} (hS : Bts 16 S) (hK : Bts 16 K) (hs : Sees W (.slice x 16 c) S) (hy : Sees W (.slice y 16 cy) K) : Calls Tryz.prog 53 #[.slice x 16 c, .slice y 16 cy] W (SP W (jn S K)) :=
  (refXored x 16 c S y 16 cy K W hS.1.symm hK.1.symm (by omega) (Nat.le_refl _) hs hy).mono fun _ _ h => h.sp (tab_len _ _)
set_option maxRecDepth 100000 in
set_option maxHeartbeats 4000000 in
theorem refTurn (g : Nat) (key b : List Nat) (x : Option Addr) (c : Nat) (w : World) (hk : Bts 32 key) (hb' : Bts 16 b) (hr : RC w g key) (hs : Sees w (.slice x 16 c) b) : Calls Tryz.prog 40 #[.pointer (some ⟨g, 0, none⟩), .slice x 16 c] w (SP w (turn (rkey key) b)) := by
  have HK := Lib.hid hk
  have HBB := Lib.hid hb'
  have HR := Lib.hid hr
  have HS := Lib.hid hs
  have R0 : Hid (∀ W, RC W g key → Calls Tryz.prog 54 #[.pointer (some ⟨g, 0, none⟩), .int .i64 0] W (SP W (rkey key 0))) := fun W h => spRound 0 (by omega) hk h
  have KB : Hid (∀ i, Bts 16 (rkey key i)) := rkey_bts hk
  have TB : Hid (∀ i, Bts 16 (trn (rkey key) b i)) := trn_bts (rkey_bts hk) hb'
  have T0 : Hid (jn b (rkey key 0) = trn (rkey key) b 0) := rfl
  clear hk hb' hr hs
  go_enter Tryz.func40, Tryz.ntmps40
  go_wp2_with fail
  refine (R0.out _ HR.out).mono ?_
  rintro e w1 ⟨x1, c1, rfl, hs1, hb1⟩
  have S1 := Lib.hid hs1
  have B1 := Lib.hid hb1
  clear hs1 hb1
  go_wp2_with fail
  refine (spXor HBB.out (KB.out 0) (HS.out.below B1.out) S1.out).mono ?_
  rintro e w2 ⟨x2, c2, rfl, hs2, hb2⟩
  rw [T0.out] at hs2
  have S2 := Lib.hid hs2
  have B2 := Lib.hid (B1.out.trans (hb2.mono B1.out.size))
  clear hs2 hb2 S1 B1 HS
  go_wp2_with fail
  go_loopw [1, 5] (fun v vi wr => ∃ (k : Nat) (q : Option Addr) (cp : Nat), k ≤ 14 ∧ vi = .int .i64 ((k + 1 : Nat) : Int) ∧ v = .slice q 16 cp ∧ Sees wr (.slice q 16 cp) (trn (rkey key) b k) ∧ Below w.heap.size w wr) (fun _ vi _ => 15 - (intOf vi).toNat)
  case atStart => exact ⟨0, x2, c2, by omega, rfl, rfl, S2.out, B2.out⟩
  case round =>
    clear S2 B2
    obtain ⟨k, q, cp, hi, rfl, rfl, hs, hb⟩ := hrel
    by_cases hlt : k < 14
    · have SB := Lib.hid (TB.out k)
      have SN : Hid (trn (rkey key) b (k + 1) = jn (cond (decide (k = 13)) (mv 1 (sb bxs (trn (rkey key) b k))) (mx 2 3 1 1 (mv 1 (sb bxs (trn (rkey key) b k))))) (rkey key (k + 1))) := rfl
      have K1 := Lib.hid (KB.out (k + 1))
      have HS := Lib.hid hs
      have HB := Lib.hid hb
      generalize trn (rkey key) b k = S at *
      have MB : Hid (Bts 16 (sb bxs S)) := sb_bts bxs_bts
      have MV : Hid (Bts 16 (mv 1 (sb bxs S))) := mv_bts 1 MB.out
      have MX : Hid (Bts 16 (mx 2 3 1 1 (mv 1 (sb bxs S)))) := mx_bts _ _ _ _ MV.out
      obtain ⟨j, hj⟩ : ∃ j, j = k + 1 := ⟨_, rfl⟩
      have RJ : Hid (∀ W, RC W g key → Calls Tryz.prog 54 #[.pointer (some ⟨g, 0, none⟩), .int .i64 j] W (SP W (rkey key j))) := fun W h => spRound j (by omega) HK.out h
      rw [← hj] at SN K1 ⊢
      have hj14 : (j : Int) ≤ 14 := by omega
      have HJ := Lib.hid hj
      clear hs hb
      have fin : ∀ (q : Option Addr) (cp : Nat) (W : World) (T : List Nat), Bts 16 T → trn (rkey key) b j = jn T (rkey key j) → True := fun _ _ _ _ _ _ => trivial
      clear fin
      by_cases hl : k = 13
      · have hq : ¬ (j : Int) < 14 := by omega
        have SN2 : Hid (trn (rkey key) b j = jn (mv 1 (sb bxs S)) (rkey key j)) := by show _ = _; rw [SN.out, hl]; rfl
        clear hl hj hlt hi SN
        go_wp2_with fail
        refine (spBoxed (HR.out.below HB.out) SB.out HS.out).mono ?_
        rintro e w3 ⟨x3, c3, rfl, hs3, hb3⟩
        have S3 := Lib.hid hs3
        have B3 := Lib.hid (HB.out.trans (hb3.mono HB.out.size))
        clear hs3 hb3 HS HB
        go_wp2_with fail
        refine (spRows MB.out S3.out).mono ?_
        rintro e w4 ⟨x4, c4, rfl, hs4, hb4⟩
        have S4 := Lib.hid hs4
        have B4 := Lib.hid (B3.out.trans (hb4.mono B3.out.size))
        clear hs4 hb4 S3 B3
        go_wp2_with fail
        refine (RJ.out _ (HR.out.below B4.out)).mono ?_
        rintro e w6 ⟨x6, c6, rfl, hs6, hb6⟩
        have S6 := Lib.hid hs6
        have SS6 := Lib.hid (S4.out.below hb6)
        have B6 := Lib.hid (B4.out.trans (hb6.mono B4.out.size))
        clear hs6 hb6 S4 B4
        go_wp2_with fail
        refine (spXor MV.out K1.out SS6.out S6.out).mono ?_
        rintro e w7 ⟨x7, c7, rfl, hs7, hb7⟩
        rw [← SN2.out] at hs7
        have S7 := Lib.hid hs7
        have B7 := Lib.hid (B6.out.trans (hb7.mono B6.out.size))
        clear hs7 hb7 S6 B6
        go_wp2_with fail
        go_roundw
        case rel =>
          have hj := HJ.out
          rw [hj] at S7
          exact ⟨k + 1, x7, c7, by omega, by rw [hj]; go_num, rfl, S7.out, B7.out⟩
        case measure => simp [intOf]; omega
      · have hq : (j : Int) < 14 := by omega
        have SN2 : Hid (trn (rkey key) b j = jn (mx 2 3 1 1 (mv 1 (sb bxs S))) (rkey key j)) := by
          show _ = _
          rw [SN.out, show decide (k = 13) = false by simpa using hl]; rfl
        clear hl hj hlt hi SN
        go_wp2_with fail
        refine (spBoxed (HR.out.below HB.out) SB.out HS.out).mono ?_
        rintro e w3 ⟨x3, c3, rfl, hs3, hb3⟩
        have S3 := Lib.hid hs3
        have B3 := Lib.hid (HB.out.trans (hb3.mono HB.out.size))
        clear hs3 hb3 HS HB
        go_wp2_with fail
        refine (spRows MB.out S3.out).mono ?_
        rintro e w4 ⟨x4, c4, rfl, hs4, hb4⟩
        have S4 := Lib.hid hs4
        have B4 := Lib.hid (B3.out.trans (hb4.mono B3.out.size))
        clear hs4 hb4 S3 B3
        go_wp2_with fail
        have hn := heap_alloc_new w4 (.cells #[.int .u8 2, .int .u8 3, .int .u8 1, .int .u8 1] 5)
        have b5 : Below w4.heap.size w4 (w4.alloc (.cells #[.int .u8 2, .int .u8 3, .int .u8 1, .int .u8 1] 5)) := (Below.refl _ _).alloc (Nat.le_refl _) _
        have f5 : Sees (w4.alloc (.cells #[.int .u8 2, .int .u8 3, .int .u8 1, .int .u8 1] 5)) (.slice (some ⟨w4.heap.size, 0, none⟩) 4 4) [2, 3, 1, 1] := sees_row _ _ [2, 3, 1, 1] (fun z hz => by simp at hz; omega) (by simp [maxLen]) hn 4 rfl
        have S4b := Lib.hid (S4.out.below b5)
        have B4b := Lib.hid (B4.out.trans (b5.mono B4.out.size))
        refine (spCols 2 3 1 1 (by omega) (by omega) (by omega) (by omega) MV.out S4b.out f5).mono ?_
        rintro e w5 ⟨x5, c5, rfl, hs5, hb5⟩
        have S5 := Lib.hid hs5
        have B5 := Lib.hid (B4b.out.trans (hb5.mono B4b.out.size))
        clear hs5 hb5 S4 B4 S4b B4b f5 b5 hn
        go_wp2_with fail
        refine (RJ.out _ (HR.out.below B5.out)).mono ?_
        rintro e w6 ⟨x6, c6, rfl, hs6, hb6⟩
        have S6 := Lib.hid hs6
        have SS6 := Lib.hid (S5.out.below hb6)
        have B6 := Lib.hid (B5.out.trans (hb6.mono B5.out.size))
        clear hs6 hb6 S5 B5
        go_wp2_with fail
        refine (spXor MX.out K1.out SS6.out S6.out).mono ?_
        rintro e w7 ⟨x7, c7, rfl, hs7, hb7⟩
        rw [← SN2.out] at hs7
        have S7 := Lib.hid hs7
        have B7 := Lib.hid (B6.out.trans (hb7.mono B6.out.size))
        clear hs7 hb7 S6 B6
        go_wp2_with fail
        go_roundw
        case rel =>
          have hj := HJ.out
          rw [hj] at S7
          exact ⟨k + 1, x7, c7, by omega, by rw [hj]; go_num, rfl, S7.out, B7.out⟩
        case measure => simp [intOf]; omega
    · obtain rfl : k = 14 := by omega
      have HS : Hid (Sees wr (.slice q 16 cp) (turn (rkey key) b)) := hs
      have HB := Lib.hid hb
      clear hs hb
      go_wp2_with fail
      go_ret
      exact ⟨q, cp, rfl, HS.out, HB.out⟩
open Go.RowKit
set_option maxRecDepth 100000 in
theorem mv_111 (S : List Nat) : mv 1 (mv 1 (mv 1 S)) = mv 3 S := by
  unfold mv
  refine tab_congr fun i hi => ?_
  rw [tab_at _ _ _ (Nat.mod_lt _ (by omega)), tab_at _ _ _ (Nat.mod_lt _ (by omega))]
  congr 1
  omega
set_option maxRecDepth 100000 in
set_option maxHeartbeats 8000000 in
theorem refBack (g : Nat) (key b : List Nat) (x : Option Addr) (c : Nat) (w : World) (hk : Bts 32 key) (hb' : Bts 16 b) (hr : RC w g key) (hs : Sees w (.slice x 16 c) b) : Calls Tryz.prog 33 #[.pointer (some ⟨g, 0, none⟩), .slice x 16 c] w (SP w (back (rkey key) b)) := by
  have HK := Lib.hid hk
  have HBB' := Lib.hid hb'
  have HR := Lib.hid hr
  have HS := Lib.hid hs
  have R0 : Hid (∀ W, RC W g key → Calls Tryz.prog 54 #[.pointer (some ⟨g, 0, none⟩), .int .i64 0] W (SP W (rkey key 0))) := fun W h => spRound 0 (by omega) hk h
  have KB : Hid (∀ i, Bts 16 (rkey key i)) := rkey_bts hk
  have TB : Hid (∀ i, Bts 16 (bkn (rkey key) b i)) := bkn_bts hb'
  clear hk hb' hr hs
  go_enter Tryz.func33, Tryz.ntmps33
  go_wp2_with fail
  go_loopw [1, 5, 6, 7] (fun v vi _ _ wr => ∃ (k i : Nat) (q : Option Addr) (cp : Nat), i + k = 14 ∧ vi = .int .i64 i ∧ v = .slice q 16 cp ∧ Sees wr (.slice q 16 cp) (bkn (rkey key) b k) ∧ Below w.heap.size w wr) (fun _ vi _ _ _ => (intOf vi).toNat)
  case atStart => exact ⟨0, 14, x, c, by omega, rfl, rfl, HS.out, Below.refl _ _⟩
  case round =>
    clear HS
    obtain ⟨k, i, q, cp, hi, rfl, rfl, hs, hb⟩ := hrel
    by_cases hlt : 1 ≤ i
    · have SB := Lib.hid (TB.out k)
      have SN : Hid (bkn (rkey key) b (k + 1) = sb kxs (mv 3 (cond (decide (k = 0)) (jn (bkn (rkey key) b k) (rkey key (14 - k))) (mx 14 11 13 9 (jn (bkn (rkey key) b k) (rkey key (14 - k))))))) := rfl
      rw [show 14 - k = i by omega] at SN
      have K1 := Lib.hid (KB.out i)
      have HS := Lib.hid hs
      have HB := Lib.hid hb
      generalize bkn (rkey key) b k = S at *
      have JB : Hid (Bts 16 (jn S (rkey key i))) := jn_bts SB.out K1.out
      have MX : Hid (Bts 16 (mx 14 11 13 9 (jn S (rkey key i)))) := mx_bts _ _ _ _ JB.out
      have RJ : Hid (∀ W, RC W g key → Calls Tryz.prog 54 #[.pointer (some ⟨g, 0, none⟩), .int .i64 i] W (SP W (rkey key i))) := fun W h => spRound i (by omega) HK.out h
      have hi1 : (1 : Int) ≤ (i : Int) := by omega
      have hi14 : (i : Int) ≤ 14 := by omega
      have HI := Lib.hid hi
      clear hs hb
      go_wp2_with fail
      refine (RJ.out _ (HR.out.below HB.out)).mono ?_
      rintro e w3 ⟨x3, c3, rfl, hs3, hb3⟩
      have S3 := Lib.hid hs3
      have SS3 := Lib.hid (HS.out.below hb3)
      have B3 := Lib.hid (HB.out.trans (hb3.mono HB.out.size))
      clear hs3 hb3 HS HB
      go_wp2_with fail
      refine (spXor SB.out K1.out SS3.out S3.out).mono ?_
      rintro e w4 ⟨x4, c4, rfl, hs4, hb4⟩
      have S4 := Lib.hid hs4
      have B4 := Lib.hid (B3.out.trans (hb4.mono B3.out.size))
      clear hs4 hb4 S3 SS3 B3
      generalize jn S (rkey key i) = J at *
      by_cases hl : k = 0
      · have hq : ¬ (i : Int) < 14 := by omega
        have SN2 : Hid (bkn (rkey key) b (k + 1) = sb kxs (mv 3 J)) := by show _ = _; rw [SN.out, hl]; rfl
        clear hl hi SN hlt
        go_wp2_with fail
        refine (spRows JB.out S4.out).mono ?_
        rintro e v1 ⟨y1, d1, rfl, hs1, hb1⟩
        have V1 := Lib.hid hs1
        have D1 := Lib.hid (B4.out.trans (hb1.mono B4.out.size))
        clear hs1 hb1 S4 B4
        go_wp2_with fail
        refine (spRows (mv_bts 1 JB.out) V1.out).mono ?_
        rintro e v2 ⟨y2, d2, rfl, hs2, hb2⟩
        have V2 := Lib.hid hs2
        have D2 := Lib.hid (D1.out.trans (hb2.mono D1.out.size))
        clear hs2 hb2 V1 D1
        go_wp2_with fail
        refine (spRows (mv_bts 1 (mv_bts 1 JB.out)) V2.out).mono ?_
        rintro e v3 ⟨y3, d3, rfl, hs3, hb3⟩
        rw [mv_111] at hs3
        have D3 := Lib.hid (D2.out.trans (hb3.mono D2.out.size))
        have XX : Hid (Bts 16 (mv 3 J)) := mv_bts 3 JB.out
        obtain ⟨bb, oo, rfl, _, _, _, hcc⟩ := hs3.at16 (by rw [XX.out.1]; omega)
        have CC : Hid (∀ i, i < 16 → v3.cell? ⟨bb, oo + i, none⟩ = some (.int .u8 (at_ (mv 3 J) i : Nat))) := fun i hi => hcc i (by rw [XX.out.1]; exact hi)
        have LBB : Hid (bb < v3.heap.size) := World.block_lt_of_cell? v3 _ (CC.out 0 (by omega))
        obtain ⟨bw, cw, y, cy, z, cz, hg, _, _, hz⟩ := HR.out.below D3.out
        have CG : Hid (v3.cell? ⟨g, 2, none⟩ = some (.slice z 256 cz)) := cell_of_row _ _ 2 _ _ _ hg
        have LG := Lib.hid (blk_lt hg)
        obtain ⟨bz, oz, rfl, _, _, _, hzc⟩ := hz.at16 (by rw [kxs_len]; omega)
        have CZ : Hid (∀ i, i < 256 → v3.cell? ⟨bz, oz + i, none⟩ = some (.int .u8 (at_ kxs i : Nat))) := fun i hi => hzc i (by rw [kxs_len]; exact hi)
        have LBZ : Hid (bz < v3.heap.size) := World.block_lt_of_cell? v3 _ (CZ.out 0 (by omega))
        generalize mv 3 J = M at *
        rename_i p1 p2 p3 p4 p5 p6 p7 p8
        clear p1 p2 p3 p4 p5 p6 p7 p8
        clear hs3 hb3 hcc hzc hg hz V2 D2
        go_wp2_with fail
        go_loopw [6, 7] (fun v vi wr => ∃ (n : Nat) (q : Option Addr) (c : Nat), n ≤ 16 ∧ vi = .int .i64 n ∧ v = .slice q n c ∧ Own wr v3.heap.size (.slice q n c) (tab n (fun i => at_ kxs (at_ M i))) ∧ Below v3.heap.size v3 wr) (fun _ vi _ => 16 - (intOf vi).toNat)
        case atStart => exact ⟨0, none, 0, by omega, rfl, rfl, own_nil _ _, Below.refl _ _⟩
        case round =>
          obtain ⟨n, q, c, hn, rfl, rfl, ho, hb⟩ := hrel
          by_cases hln : n < 16
          · have hn16 : (n : Int) < 16 := by omega
            have xl := XX.out.at_lt n
            have CX := Lib.hid (CC.out n hln)
            have CY := Lib.hid (CZ.out _ xl)
            obtain ⟨q1, c1, w1, hrun, ho1, hb1⟩ := ho.drew.push (x := at_ kxs (at_ M n)) (kxs_bts.at_lt _) (by rw [tab_len]; omega) hb.size
            rw [← tab_succ n (fun i => at_ kxs (at_ M i)), tab_len] at ho1
            rw [tab_len] at hrun
            have HO1 := Lib.hid ho1
            have HR := Lib.hid hrun
            have HBB := Lib.hid hb
            have HB2 := Lib.hid (hb.drew.trans hb1)
            clear ho1 hrun hb1 ho hb
            generalize at_ kxs (at_ M n) = zz at *
            generalize at_ M n = ee at *
            have xl' : (ee : Int) < 256 := by omega
            go_wp2_with fail
            refine wp_region_held_drew (S := fun W => Below v3.heap.size v3 W) (by kernel_rfl) HBB.out.drew (fun hS => ?_)
            refine' wpAnyH_take (i := 0) ?h1x0p ?hsx0p ?hfx0p ?hrx0p ?hQx0p (Or.inl ⟨?hwx0p, ?hyx0p⟩) hS ?restx0p
            case h1x0p => (simp only [List.getElem?_toArray, List.getElem?_cons_zero]; rfl)
            case hsx0p | hfx0p | hrx0p => kernel_rfl
            case hQx0p => exact fun _ _ _ h => h
            case hwx0p => rfl
            case hyx0p =>
              intro W hW
              go_simp
              try with_reducible rfl
            simp only [Act.put, List.setIfInBounds_toArray, List.set_cons_succ, List.set_cons_zero]
            refine' wpAnyH_take (i := 1) ?h1x1p ?hsx1p ?hfx1p ?hrx1p ?hQx1p (Or.inl ⟨?hwx1p, ?hyx1p⟩) hS ?restx1p
            case h1x1p => (simp only [List.getElem?_toArray, List.getElem?_cons_succ, List.getElem?_cons_zero]; rfl)
            case hsx1p | hfx1p | hrx1p => kernel_rfl
            case hQx1p => exact fun _ _ _ h => h
            case hwx1p => rfl
            case hyx1p =>
              intro W hW
              go_simp
              try with_reducible rfl
            simp only [Act.put, List.setIfInBounds_toArray, List.set_cons_succ, List.set_cons_zero]
            refine' wpAnyH_take (i := 2) ?h1x2p ?hsx2p ?hfx2p ?hrx2p ?hQx2p (Or.inl ⟨?hwx2p, ?hyx2p⟩) hS ?restx2p
            case h1x2p => (simp only [List.getElem?_toArray, List.getElem?_cons_succ, List.getElem?_cons_zero]; rfl)
            case hsx2p | hfx2p | hrx2p => kernel_rfl
            case hQx2p => exact fun _ _ _ h => h
            case hwx2p => rfl
            case hyx2p =>
              intro W hW
              go_simp
              try with_reducible rfl
            simp only [Act.put, List.setIfInBounds_toArray, List.set_cons_succ, List.set_cons_zero]
            refine' wpAnyH_take (i := 3) ?h1x3p ?hsx3p ?hfx3p ?hrx3p ?hQx3p (Or.inl ⟨?hwx3p, ?hyx3p⟩) hS ?restx3p
            case h1x3p => (simp only [List.getElem?_toArray, List.getElem?_cons_succ, List.getElem?_cons_zero]; rfl)
            case hsx3p | hfx3p | hrx3p => kernel_rfl
            case hQx3p => exact fun _ _ _ h => h
            case hwx3p => rfl
            case hyx3p =>
              intro W hW
              go_simp
              try with_reducible rfl
            simp only [Act.put, List.setIfInBounds_toArray, List.set_cons_succ, List.set_cons_zero]
            refine' wpAnyH_take (i := 4) ?h1x4p ?hsx4p ?hfx4p ?hrx4p ?hQx4p (Or.inl ⟨?hwx4p, ?hyx4p⟩) hS ?restx4p
            case h1x4p => (simp only [List.getElem?_toArray, List.getElem?_cons_succ, List.getElem?_cons_zero]; rfl)
            case hsx4p | hfx4p | hrx4p => kernel_rfl
            case hQx4p => exact fun _ _ _ h => h
            case hwx4p => rfl
            case hyx4p =>
              intro W hW
              have dd := (hW.cell (p := ⟨g, 2, none⟩) LG.out).trans CG.out
              go_simp
              try with_reducible rfl
            simp only [Act.put, List.setIfInBounds_toArray, List.set_cons_succ, List.set_cons_zero]
            refine' wpAnyH_take (i := 5) ?h1x5p ?hsx5p ?hfx5p ?hrx5p ?hQx5p (Or.inl ⟨?hwx5p, ?hyx5p⟩) hS ?restx5p
            case h1x5p => (simp only [List.getElem?_toArray, List.getElem?_cons_succ, List.getElem?_cons_zero]; rfl)
            case hsx5p | hfx5p | hrx5p => kernel_rfl
            case hQx5p => exact fun _ _ _ h => h
            case hwx5p => rfl
            case hyx5p =>
              intro W hW
              go_simp
              try with_reducible rfl
            simp only [Act.put, List.setIfInBounds_toArray, List.set_cons_succ, List.set_cons_zero]
            refine' wpAnyH_take (i := 6) ?h1x6p ?hsx6p ?hfx6p ?hrx6p ?hQx6p (Or.inl ⟨?hwx6p, ?hyx6p⟩) hS ?restx6p
            case h1x6p => (simp only [List.getElem?_toArray, List.getElem?_cons_succ, List.getElem?_cons_zero]; rfl)
            case hsx6p | hfx6p | hrx6p => kernel_rfl
            case hQx6p => exact fun _ _ _ h => h
            case hwx6p => rfl
            case hyx6p =>
              intro W hW
              go_simp
              try with_reducible rfl
            simp only [Act.put, List.setIfInBounds_toArray, List.set_cons_succ, List.set_cons_zero]
            refine' wpAnyH_take (i := 7) ?h1x7p ?hsx7p ?hfx7p ?hrx7p ?hQx7p (Or.inl ⟨?hwx7p, ?hyx7p⟩) hS ?restx7p
            case h1x7p => (simp only [List.getElem?_toArray, List.getElem?_cons_succ, List.getElem?_cons_zero]; rfl)
            case hsx7p | hfx7p | hrx7p => kernel_rfl
            case hQx7p => exact fun _ _ _ h => h
            case hwx7p => rfl
            case hyx7p =>
              intro W hW
              go_simp
              try with_reducible rfl
            simp only [Act.put, List.setIfInBounds_toArray, List.set_cons_succ, List.set_cons_zero]
            refine' wpAnyH_take (i := 8) ?h1x8p ?hsx8p ?hfx8p ?hrx8p ?hQx8p (Or.inl ⟨?hwx8p, ?hyx8p⟩) hS ?restx8p
            case h1x8p => (simp only [List.getElem?_toArray, List.getElem?_cons_succ, List.getElem?_cons_zero]; rfl)
            case hsx8p | hfx8p | hrx8p => kernel_rfl
            case hQx8p => exact fun _ _ _ h => h
            case hwx8p => rfl
            case hyx8p =>
              intro W hW
              have dd := (hW.cell (p := ⟨bb, oo + n, none⟩) LBB.out).trans CX.out
              go_simp
              try with_reducible rfl
            simp only [Act.put, List.setIfInBounds_toArray, List.set_cons_succ, List.set_cons_zero]
            refine' wpAnyH_take (i := 9) ?h1x9p ?hsx9p ?hfx9p ?hrx9p ?hQx9p (Or.inl ⟨?hwx9p, ?hyx9p⟩) hS ?restx9p
            case h1x9p => (simp only [List.getElem?_toArray, List.getElem?_cons_succ, List.getElem?_cons_zero]; rfl)
            case hsx9p | hfx9p | hrx9p => kernel_rfl
            case hQx9p => exact fun _ _ _ h => h
            case hwx9p => rfl
            case hyx9p =>
              intro W hW
              go_simp
              try with_reducible rfl
            simp only [Act.put, List.setIfInBounds_toArray, List.set_cons_succ, List.set_cons_zero]
            refine' wpAnyH_take (i := 10) ?h1x10p ?hsx10p ?hfx10p ?hrx10p ?hQx10p (Or.inl ⟨?hwx10p, ?hyx10p⟩) hS ?restx10p
            case h1x10p => (simp only [List.getElem?_toArray, List.getElem?_cons_succ, List.getElem?_cons_zero]; rfl)
            case hsx10p | hfx10p | hrx10p => kernel_rfl
            case hQx10p => exact fun _ _ _ h => h
            case hwx10p => rfl
            case hyx10p =>
              intro W hW
              have dd := (hW.cell (p := ⟨bz, oz + ee, none⟩) LBZ.out).trans CY.out
              go_simp
              try with_reducible rfl
            simp only [Act.put, List.setIfInBounds_toArray, List.set_cons_succ, List.set_cons_zero]
            refine wpAnyH_ready (rs := [11]) (by kernel_rfl) (by simp) ?_
            refine' AllReadyH.cons ?hoc11p (fun K hK => ?stc11p) AllReadyH.nil
            case hoc11p => (simp only [List.getElem?_toArray, List.getElem?_cons_succ, List.getElem?_cons_zero]; rfl)
            go_simp
            refine hK.out _ _ (hS.alloc hS.size _) (fun hHeld => ?_)
            clear hK K
            try simp only [Act.put, List.setIfInBounds_toArray, List.set_cons_succ, List.set_cons_zero]
            clear hS
            have hS := hHeld
            clear hHeld
            refine wpAnyH_ready (rs := [12]) (by kernel_rfl) (by simp) ?_
            refine' AllReadyH.cons ?hoc12p (fun K hK => ?stc12p) AllReadyH.nil
            case hoc12p => (simp only [List.getElem?_toArray, List.getElem?_cons_succ, List.getElem?_cons_zero]; rfl)
            refine step_app rfl _ _ rfl rfl rfl rfl HR.out ?_
            refine hK.out _ _ HB2.out (fun hHeld => ?_)
            clear hK K
            try simp only [Act.put, List.setIfInBounds_toArray, List.set_cons_succ, List.set_cons_zero]
            clear hS
            have hS := hHeld
            clear hHeld
            refine' wpAnyH_take (i := 13) ?h1x13p ?hsx13p ?hfx13p ?hrx13p ?hQx13p (Or.inl ⟨?hwx13p, ?hyx13p⟩) hS ?restx13p
            case h1x13p => (simp only [List.getElem?_toArray, List.getElem?_cons_succ, List.getElem?_cons_zero]; rfl)
            case hsx13p | hfx13p | hrx13p => kernel_rfl
            case hQx13p => exact fun _ _ _ h => h
            case hwx13p => rfl
            case hyx13p =>
              intro W hW
              go_simp
              try with_reducible rfl
            simp only [Act.put, List.setIfInBounds_toArray, List.set_cons_succ, List.set_cons_zero]
            refine wpAnyH_done (by kernel_rfl) ?_ _
            go_wp2_with fail
            go_roundw
            case rel => exact ⟨n + 1, q1, c1, by omega, by go_num, rfl, HO1.out, HB2.out⟩
            case measure => simp [intOf]; omega
          · obtain rfl : n = 16 := by omega
            have HO : Hid (Sees wr (.slice q 16 c) (bkn (rkey key) b (k + 1))) := by rw [SN2.out]; exact ho.sees
            have HB := Lib.hid (D3.out.trans (hb.mono D3.out.size))
            clear ho hb hn hln
            go_wp2_with fail
            go_roundw
            case rel =>
              have hi := HI.out
              exact ⟨k + 1, i - 1, q, c, by omega, by congr 1; omega, rfl, HO.out, HB.out⟩
            case measure => simp [intOf]; omega
      · have hq : (i : Int) < 14 := by omega
        have SN2 : Hid (bkn (rkey key) b (k + 1) = sb kxs (mv 3 (mx 14 11 13 9 J))) := by
          show _ = _
          rw [SN.out, show decide (k = 0) = false by simpa using hl]; rfl
        clear hl hi SN hlt
        go_wp2_with fail
        have hn := heap_alloc_new w4 (.cells #[.int .u8 14, .int .u8 11, .int .u8 13, .int .u8 9] 5)
        have b5 : Below w4.heap.size w4 (w4.alloc (.cells #[.int .u8 14, .int .u8 11, .int .u8 13, .int .u8 9] 5)) := (Below.refl _ _).alloc (Nat.le_refl _) _
        have f5 : Sees (w4.alloc (.cells #[.int .u8 14, .int .u8 11, .int .u8 13, .int .u8 9] 5)) (.slice (some ⟨w4.heap.size, 0, none⟩) 4 4) [14, 11, 13, 9] := sees_row _ _ [14, 11, 13, 9] (fun z hz => by simp at hz; omega) (by simp [maxLen]) hn 4 rfl
        have S4b := Lib.hid (S4.out.below b5)
        have B4b := Lib.hid (B4.out.trans (b5.mono B4.out.size))
        refine (spCols 14 11 13 9 (by omega) (by omega) (by omega) (by omega) JB.out S4b.out f5).mono ?_
        rintro e w5 ⟨x5, c5, rfl, hs5, hb5⟩
        have S5 := Lib.hid hs5
        have B5 := Lib.hid (B4b.out.trans (hb5.mono B4b.out.size))
        clear hs5 hb5 S4 B4 S4b B4b f5 b5 hn
        generalize mx 14 11 13 9 J = Y at *
        go_wp2_with fail
        refine (spRows MX.out S5.out).mono ?_
        rintro e v1 ⟨y1, d1, rfl, hs1, hb1⟩
        have V1 := Lib.hid hs1
        have D1 := Lib.hid (B5.out.trans (hb1.mono B5.out.size))
        clear hs1 hb1 S5 B5
        go_wp2_with fail
        refine (spRows (mv_bts 1 MX.out) V1.out).mono ?_
        rintro e v2 ⟨y2, d2, rfl, hs2, hb2⟩
        have V2 := Lib.hid hs2
        have D2 := Lib.hid (D1.out.trans (hb2.mono D1.out.size))
        clear hs2 hb2 V1 D1
        go_wp2_with fail
        refine (spRows (mv_bts 1 (mv_bts 1 MX.out)) V2.out).mono ?_
        rintro e v3 ⟨y3, d3, rfl, hs3, hb3⟩
        rw [mv_111] at hs3
        have D3 := Lib.hid (D2.out.trans (hb3.mono D2.out.size))
        have XX : Hid (Bts 16 (mv 3 Y)) := mv_bts 3 MX.out
        obtain ⟨bb, oo, rfl, _, _, _, hcc⟩ := hs3.at16 (by rw [XX.out.1]; omega)
        have CC : Hid (∀ i, i < 16 → v3.cell? ⟨bb, oo + i, none⟩ = some (.int .u8 (at_ (mv 3 Y) i : Nat))) := fun i hi => hcc i (by rw [XX.out.1]; exact hi)
        have LBB : Hid (bb < v3.heap.size) := World.block_lt_of_cell? v3 _ (CC.out 0 (by omega))
        obtain ⟨bw, cw, y, cy, z, cz, hg, _, _, hz⟩ := HR.out.below D3.out
        have CG : Hid (v3.cell? ⟨g, 2, none⟩ = some (.slice z 256 cz)) := cell_of_row _ _ 2 _ _ _ hg
        have LG := Lib.hid (blk_lt hg)
        obtain ⟨bz, oz, rfl, _, _, _, hzc⟩ := hz.at16 (by rw [kxs_len]; omega)
        have CZ : Hid (∀ i, i < 256 → v3.cell? ⟨bz, oz + i, none⟩ = some (.int .u8 (at_ kxs i : Nat))) := fun i hi => hzc i (by rw [kxs_len]; exact hi)
        have LBZ : Hid (bz < v3.heap.size) := World.block_lt_of_cell? v3 _ (CZ.out 0 (by omega))
        generalize mv 3 Y = M at *
        rename_i p1 p2 p3 p4 p5 p6 p7 p8
        clear p1 p2 p3 p4 p5 p6 p7 p8
        clear hs3 hb3 hcc hzc hg hz V2 D2
        go_wp2_with fail
        go_loopw [6, 7] (fun v vi wr => ∃ (n : Nat) (q : Option Addr) (c : Nat), n ≤ 16 ∧ vi = .int .i64 n ∧ v = .slice q n c ∧ Own wr v3.heap.size (.slice q n c) (tab n (fun i => at_ kxs (at_ M i))) ∧ Below v3.heap.size v3 wr) (fun _ vi _ => 16 - (intOf vi).toNat)
        case atStart => exact ⟨0, none, 0, by omega, rfl, rfl, own_nil _ _, Below.refl _ _⟩
        case round =>
          obtain ⟨n, q, c, hn, rfl, rfl, ho, hb⟩ := hrel
          by_cases hln : n < 16
          · have hn16 : (n : Int) < 16 := by omega
            have xl := XX.out.at_lt n
            have CX := Lib.hid (CC.out n hln)
            have CY := Lib.hid (CZ.out _ xl)
            obtain ⟨q1, c1, w1, hrun, ho1, hb1⟩ := ho.drew.push (x := at_ kxs (at_ M n)) (kxs_bts.at_lt _) (by rw [tab_len]; omega) hb.size
            rw [← tab_succ n (fun i => at_ kxs (at_ M i)), tab_len] at ho1
            rw [tab_len] at hrun
            have HO1 := Lib.hid ho1
            have HR := Lib.hid hrun
            have HBB := Lib.hid hb
            have HB2 := Lib.hid (hb.drew.trans hb1)
            clear ho1 hrun hb1 ho hb
            generalize at_ kxs (at_ M n) = zz at *
            generalize at_ M n = ee at *
            have xl' : (ee : Int) < 256 := by omega
            go_wp2_with fail
            refine wp_region_held_drew (S := fun W => Below v3.heap.size v3 W) (by kernel_rfl) HBB.out.drew (fun hS => ?_)
            refine' wpAnyH_take (i := 0) ?h1x0q ?hsx0q ?hfx0q ?hrx0q ?hQx0q (Or.inl ⟨?hwx0q, ?hyx0q⟩) hS ?restx0q
            case h1x0q => (simp only [List.getElem?_toArray, List.getElem?_cons_zero]; rfl)
            case hsx0q | hfx0q | hrx0q => kernel_rfl
            case hQx0q => exact fun _ _ _ h => h
            case hwx0q => rfl
            case hyx0q =>
              intro W hW
              go_simp
              try with_reducible rfl
            simp only [Act.put, List.setIfInBounds_toArray, List.set_cons_succ, List.set_cons_zero]
            refine' wpAnyH_take (i := 1) ?h1x1q ?hsx1q ?hfx1q ?hrx1q ?hQx1q (Or.inl ⟨?hwx1q, ?hyx1q⟩) hS ?restx1q
            case h1x1q => (simp only [List.getElem?_toArray, List.getElem?_cons_succ, List.getElem?_cons_zero]; rfl)
            case hsx1q | hfx1q | hrx1q => kernel_rfl
            case hQx1q => exact fun _ _ _ h => h
            case hwx1q => rfl
            case hyx1q =>
              intro W hW
              go_simp
              try with_reducible rfl
            simp only [Act.put, List.setIfInBounds_toArray, List.set_cons_succ, List.set_cons_zero]
            refine' wpAnyH_take (i := 2) ?h1x2q ?hsx2q ?hfx2q ?hrx2q ?hQx2q (Or.inl ⟨?hwx2q, ?hyx2q⟩) hS ?restx2q
            case h1x2q => (simp only [List.getElem?_toArray, List.getElem?_cons_succ, List.getElem?_cons_zero]; rfl)
            case hsx2q | hfx2q | hrx2q => kernel_rfl
            case hQx2q => exact fun _ _ _ h => h
            case hwx2q => rfl
            case hyx2q =>
              intro W hW
              go_simp
              try with_reducible rfl
            simp only [Act.put, List.setIfInBounds_toArray, List.set_cons_succ, List.set_cons_zero]
            refine' wpAnyH_take (i := 3) ?h1x3q ?hsx3q ?hfx3q ?hrx3q ?hQx3q (Or.inl ⟨?hwx3q, ?hyx3q⟩) hS ?restx3q
            case h1x3q => (simp only [List.getElem?_toArray, List.getElem?_cons_succ, List.getElem?_cons_zero]; rfl)
            case hsx3q | hfx3q | hrx3q => kernel_rfl
            case hQx3q => exact fun _ _ _ h => h
            case hwx3q => rfl
            case hyx3q =>
              intro W hW
              go_simp
              try with_reducible rfl
            simp only [Act.put, List.setIfInBounds_toArray, List.set_cons_succ, List.set_cons_zero]
            refine' wpAnyH_take (i := 4) ?h1x4q ?hsx4q ?hfx4q ?hrx4q ?hQx4q (Or.inl ⟨?hwx4q, ?hyx4q⟩) hS ?restx4q
            case h1x4q => (simp only [List.getElem?_toArray, List.getElem?_cons_succ, List.getElem?_cons_zero]; rfl)
            case hsx4q | hfx4q | hrx4q => kernel_rfl
            case hQx4q => exact fun _ _ _ h => h
            case hwx4q => rfl
            case hyx4q =>
              intro W hW
              have dd := (hW.cell (p := ⟨g, 2, none⟩) LG.out).trans CG.out
              go_simp
              try with_reducible rfl
            simp only [Act.put, List.setIfInBounds_toArray, List.set_cons_succ, List.set_cons_zero]
            refine' wpAnyH_take (i := 5) ?h1x5q ?hsx5q ?hfx5q ?hrx5q ?hQx5q (Or.inl ⟨?hwx5q, ?hyx5q⟩) hS ?restx5q
            case h1x5q => (simp only [List.getElem?_toArray, List.getElem?_cons_succ, List.getElem?_cons_zero]; rfl)
            case hsx5q | hfx5q | hrx5q => kernel_rfl
            case hQx5q => exact fun _ _ _ h => h
            case hwx5q => rfl
            case hyx5q =>
              intro W hW
              go_simp
              try with_reducible rfl
            simp only [Act.put, List.setIfInBounds_toArray, List.set_cons_succ, List.set_cons_zero]
            refine' wpAnyH_take (i := 6) ?h1x6q ?hsx6q ?hfx6q ?hrx6q ?hQx6q (Or.inl ⟨?hwx6q, ?hyx6q⟩) hS ?restx6q
            case h1x6q => (simp only [List.getElem?_toArray, List.getElem?_cons_succ, List.getElem?_cons_zero]; rfl)
            case hsx6q | hfx6q | hrx6q => kernel_rfl
            case hQx6q => exact fun _ _ _ h => h
            case hwx6q => rfl
            case hyx6q =>
              intro W hW
              go_simp
              try with_reducible rfl
            simp only [Act.put, List.setIfInBounds_toArray, List.set_cons_succ, List.set_cons_zero]
            refine' wpAnyH_take (i := 7) ?h1x7q ?hsx7q ?hfx7q ?hrx7q ?hQx7q (Or.inl ⟨?hwx7q, ?hyx7q⟩) hS ?restx7q
            case h1x7q => (simp only [List.getElem?_toArray, List.getElem?_cons_succ, List.getElem?_cons_zero]; rfl)
            case hsx7q | hfx7q | hrx7q => kernel_rfl
            case hQx7q => exact fun _ _ _ h => h
            case hwx7q => rfl
            case hyx7q =>
              intro W hW
              go_simp
              try with_reducible rfl
            simp only [Act.put, List.setIfInBounds_toArray, List.set_cons_succ, List.set_cons_zero]
            refine' wpAnyH_take (i := 8) ?h1x8q ?hsx8q ?hfx8q ?hrx8q ?hQx8q (Or.inl ⟨?hwx8q, ?hyx8q⟩) hS ?restx8q
            case h1x8q => (simp only [List.getElem?_toArray, List.getElem?_cons_succ, List.getElem?_cons_zero]; rfl)
            case hsx8q | hfx8q | hrx8q => kernel_rfl
            case hQx8q => exact fun _ _ _ h => h
            case hwx8q => rfl
            case hyx8q =>
              intro W hW
              have dd := (hW.cell (p := ⟨bb, oo + n, none⟩) LBB.out).trans CX.out
              go_simp
              try with_reducible rfl
            simp only [Act.put, List.setIfInBounds_toArray, List.set_cons_succ, List.set_cons_zero]
            refine' wpAnyH_take (i := 9) ?h1x9q ?hsx9q ?hfx9q ?hrx9q ?hQx9q (Or.inl ⟨?hwx9q, ?hyx9q⟩) hS ?restx9q
            case h1x9q => (simp only [List.getElem?_toArray, List.getElem?_cons_succ, List.getElem?_cons_zero]; rfl)
            case hsx9q | hfx9q | hrx9q => kernel_rfl
            case hQx9q => exact fun _ _ _ h => h
            case hwx9q => rfl
            case hyx9q =>
              intro W hW
              go_simp
              try with_reducible rfl
            simp only [Act.put, List.setIfInBounds_toArray, List.set_cons_succ, List.set_cons_zero]
            refine' wpAnyH_take (i := 10) ?h1x10q ?hsx10q ?hfx10q ?hrx10q ?hQx10q (Or.inl ⟨?hwx10q, ?hyx10q⟩) hS ?restx10q
            case h1x10q => (simp only [List.getElem?_toArray, List.getElem?_cons_succ, List.getElem?_cons_zero]; rfl)
            case hsx10q | hfx10q | hrx10q => kernel_rfl
            case hQx10q => exact fun _ _ _ h => h
            case hwx10q => rfl
            case hyx10q =>
              intro W hW
              have dd := (hW.cell (p := ⟨bz, oz + ee, none⟩) LBZ.out).trans CY.out
              go_simp
              try with_reducible rfl
            simp only [Act.put, List.setIfInBounds_toArray, List.set_cons_succ, List.set_cons_zero]
            refine wpAnyH_ready (rs := [11]) (by kernel_rfl) (by simp) ?_
            refine' AllReadyH.cons ?hoc11q (fun K hK => ?stc11q) AllReadyH.nil
            case hoc11q => (simp only [List.getElem?_toArray, List.getElem?_cons_succ, List.getElem?_cons_zero]; rfl)
            go_simp
            refine hK.out _ _ (hS.alloc hS.size _) (fun hHeld => ?_)
            clear hK K
            try simp only [Act.put, List.setIfInBounds_toArray, List.set_cons_succ, List.set_cons_zero]
            clear hS
            have hS := hHeld
            clear hHeld
            refine wpAnyH_ready (rs := [12]) (by kernel_rfl) (by simp) ?_
            refine' AllReadyH.cons ?hoc12q (fun K hK => ?stc12q) AllReadyH.nil
            case hoc12q => (simp only [List.getElem?_toArray, List.getElem?_cons_succ, List.getElem?_cons_zero]; rfl)
            refine step_app rfl _ _ rfl rfl rfl rfl HR.out ?_
            refine hK.out _ _ HB2.out (fun hHeld => ?_)
            clear hK K
            try simp only [Act.put, List.setIfInBounds_toArray, List.set_cons_succ, List.set_cons_zero]
            clear hS
            have hS := hHeld
            clear hHeld
            refine' wpAnyH_take (i := 13) ?h1x13q ?hsx13q ?hfx13q ?hrx13q ?hQx13q (Or.inl ⟨?hwx13q, ?hyx13q⟩) hS ?restx13q
            case h1x13q => (simp only [List.getElem?_toArray, List.getElem?_cons_succ, List.getElem?_cons_zero]; rfl)
            case hsx13q | hfx13q | hrx13q => kernel_rfl
            case hQx13q => exact fun _ _ _ h => h
            case hwx13q => rfl
            case hyx13q =>
              intro W hW
              go_simp
              try with_reducible rfl
            simp only [Act.put, List.setIfInBounds_toArray, List.set_cons_succ, List.set_cons_zero]
            refine wpAnyH_done (by kernel_rfl) ?_ _
            go_wp2_with fail
            go_roundw
            case rel => exact ⟨n + 1, q1, c1, by omega, by go_num, rfl, HO1.out, HB2.out⟩
            case measure => simp [intOf]; omega
          · obtain rfl : n = 16 := by omega
            have HO : Hid (Sees wr (.slice q 16 c) (bkn (rkey key) b (k + 1))) := by rw [SN2.out]; exact ho.sees
            have HB := Lib.hid (D3.out.trans (hb.mono D3.out.size))
            clear ho hb hn hln
            go_wp2_with fail
            go_roundw
            case rel =>
              have hi := HI.out
              exact ⟨k + 1, i - 1, q, c, by omega, by congr 1; omega, rfl, HO.out, HB.out⟩
            case measure => simp [intOf]; omega
    · obtain rfl : i = 0 := by omega
      obtain rfl : k = 14 := by omega
      have SB := Lib.hid (TB.out 14)
      have K0 := Lib.hid (KB.out 0)
      have BN : Hid (back (rkey key) b = jn (bkn (rkey key) b 14) (rkey key 0)) := rfl
      have HS := Lib.hid hs
      have HB := Lib.hid hb
      clear hs hb
      go_wp2_with fail
      refine (R0.out _ (HR.out.below HB.out)).mono ?_
      rintro e w3 ⟨x3, c3, rfl, hs3, hb3⟩
      have S3 := Lib.hid hs3
      have SS3 := Lib.hid (HS.out.below hb3)
      have B3 := Lib.hid (HB.out.trans (hb3.mono HB.out.size))
      clear hs3 hb3 HS HB
      go_wp2_with fail
      refine (spXor SB.out K0.out SS3.out S3.out).mono ?_
      rintro e w4 ⟨x4, c4, rfl, hs4, hb4⟩
      have S4 := Lib.hid hs4
      have B4 := Lib.hid (B3.out.trans (hb4.mono B3.out.size))
      clear hs4 hb4 S3 SS3 B3
      go_wp2_with fail
      go_ret
      exact ⟨x4, c4, rfl, by rw [BN.out]; exact S4.out, B4.out⟩
open Go.RowKit
set_option maxRecDepth 100000 in
theorem info28 : (Tryz.prog.info? 31).map (fun i => (i.zero, i.size, i.bytes)) = some (some (.slice none 0 0), 1, 24) := by kernel_rfl
/-- The call's own slices of four bytes each, in a block from base on. -/
def OwnV (w : World) (base : Nat) (v : Value) (xs : List Value) : Prop := (∀ x ∈ xs, ∃ q c, x = .slice q 4 c) ∧ w.ownsRow base 31 1 v xs.length xs
set_option maxRecDepth 100000 in
theorem ownv_nil (w : World) (base : Nat) : OwnV w base (.slice none 0 0) [] := ⟨fun _ h => by simp at h, World.ownsRow_nil w base 31 1⟩
set_option maxRecDepth 100000 in
theorem OwnV.grown {w w' : World} {base : Nat} {v : Value} {xs : List Value} {row : Option Nat} (h : OwnV w base v xs) (hg : w.grownBy w' row) (hne : v.ownBlock = none ∨ v.ownBlock ≠ row) : OwnV w' base v xs := ⟨h.1, h.2.kept hg hne⟩
set_option maxRecDepth 100000 in
theorem OwnV.below {w w' : World} {base : Nat} {v : Value} {xs : List Value} (h : OwnV w base v xs) (hb : Below w.heap.size w w') : OwnV w' base v xs :=
  h.grown (row := none) ⟨hb.os, hb.tape, hb.output, hb.size, fun k hk _ => hb.block k hk⟩ (by cases v.ownBlock <;> simp)
set_option maxRecDepth 100000 in
theorem OwnV.cells {w : World} {base : Nat} {v : Value} {xs : List Value} (h : OwnV w base v xs) (h0 : 0 < xs.length) :
    ∃ g cap, v = .slice (some ⟨g, 0, none⟩) xs.length cap ∧ base ≤ g ∧ g < w.heap.size ∧ xs.length ≤ cap ∧ cap ≤ maxLen ∧ ∀ i (hi : i < xs.length), w.cell? ⟨g, i, none⟩ = some xs[i] := by
  obtain ⟨_, hl, ⟨rfl, e0⟩ | ⟨g, cap, cur, rfl, hbg, hg, hn, hm, hs, ht⟩⟩ := h
  · omega
  · refine ⟨g, cap, rfl, hbg, blk_lt hg, hn, hm, fun i hi => ?_⟩
    rw [cell_of_row _ _ _ _ _ _ hg]
    have h1 : xs[i]? = some xs[i] := List.getElem?_eq_getElem hi
    have h2 : (cur.toList.take (xs.length * 1))[i]? = some xs[i] := by rw [ht]; exact h1
    rw [List.getElem?_take_of_lt (by omega)] at h2
    simpa using h2
set_option maxRecDepth 100000 in
/-- One slice more. -/
theorem OwnV.push {w : World} {base : Nat} {v : Value} {xs : List Value} (h : OwnV w base v xs) (hn : xs.length + 1 ≤ 1000) (hbase : base ≤ w.heap.size) (q : Option Addr) (c : Nat) :
    ∃ q' cap w', (Builtin.append_ #[63, 63] 63 #[v, .slice (some ⟨w.heap.size, 0, none⟩) 1 1]).run Tryz.prog (w.alloc (.cells #[.slice q 4 c] 31)) = .ok (.slice q' (xs.length + 1) cap) w' ∧
      OwnV w' base (.slice q' (xs.length + 1) cap) (xs ++ [.slice q 4 c]) ∧ Below base w w' ∧ (w.alloc (.cells #[.slice q 4 c] 31)).grownBy w' v.ownBlock := by
  obtain ⟨i, hi, hz0, hz1, hz2⟩ := info_parts info28
  have ho : OwnV (w.alloc (.cells #[.slice q 4 c] 31)) base v xs := h.below ((Below.refl _ _).alloc (Nat.le_refl _) _)
  have hm : xs.length + 1 ≤ maxLen := by unfold maxLen; omega
  obtain ⟨v', w', hr, hown, hg, hnil⟩ := run_append_own (P := Tryz.prog) (w.alloc (.cells #[.slice q 4 c] 31)) base 63 63 31 i _ 1 24 Tryz.underlying63 hi hz0 hz1 hz2 rfl (by decide) v xs.length _ ho.2 ⟨w.heap.size, 0, none⟩ 1 1 [.slice q 4 c] rfl (cell_one_new w _ _) (by simp [Value.oneCell']) hm (by omega) (by simp; omega)
  have hbel : Below base w w' := ((Below.refl base w).alloc hbase _).grown hg (by simp; omega) (fun j e => (World.ownsRow.lt ho.2 j e).1)
  have hown' : OwnV w' base v' (xs ++ [.slice q 4 c]) := by
    refine ⟨fun x hx => ?_, by rw [List.length_append]; exact hown⟩
    rcases List.mem_append.1 hx with hx | hx
    · exact h.1 x hx
    · simp at hx; exact ⟨q, c, hx⟩
  rcases hown.2 with ⟨rfl, h0⟩ | ⟨g, cap, cur, rfl, _⟩
  · omega
  · exact ⟨_, _, w', hr, hown', hbel, hg⟩
set_option maxRecDepth 100000 in
/-- An append to a slice of slices whose run is known, in a region that draws. -/
theorem step_appV {ops : Array Oper} {o : Oper} {a : Act} {w : World} {K : Act → World → Prop} {Q : Exit → Act → World → Prop} {E : Prop} (hgd : o.guard = none) (s x : Operand)
    (ho : o.op = .call { callee := .builtin .append, args := #[s, x], argTypes := #[63, 63] }) (hty : o.type = 63) {v u v' : Value} {w' : World} (hs : a.eval s = v) (hx : a.eval x = u) (hr : (Builtin.append_ #[63, 63] 63 #[v, u]).run Tryz.prog w = .ok v' w')
    (hK : K (a.put o.dst v') w') : if Region.wanted o (yielded ops a.tmps) = true then Oper.wp Tryz.prog o a w K Q else E := by
  have hw : Region.wanted o (yielded ops a.tmps) = true := by simp [Region.wanted, hgd]
  rw [if_pos hw]
  unfold Oper.wp
  simp [execOp, ho, hty, resolve, invoke, builtin, hs, hx, hr, Result.andThen]
  exact hK
set_option maxRecDepth 100000 in
theorem Own.setOther {w : World} {base g k : Nat} {v u : Value} {xs : List Nat} (h : Own w base v xs) (hg : g < base) : Own (w.setCell ⟨g, k, none⟩ u) base v xs := by
  obtain ⟨h1, h2, h3⟩ := h
  refine ⟨h1, h2, ?_⟩
  rcases h3 with h3 | ⟨g', cap, cur, e1, e2, e3, e4⟩
  · exact .inl h3
  · exact .inr ⟨g', cap, cur, e1, e2, by rw [heap_setCell_other _ _ _ _ (by simp; omega)]; exact e3, e4⟩
set_option maxRecDepth 100000 in
theorem OwnV.setOther {w : World} {base g k : Nat} {v u : Value} {xs : List Value} (h : OwnV w base v xs) (hg : g < base) : OwnV (w.setCell ⟨g, k, none⟩ u) base v xs := by
  obtain ⟨h1, h2, h3⟩ := h
  refine ⟨h1, h2, ?_⟩
  rcases h3 with h3 | ⟨g', cap, cur, e1, e2, e3, e4⟩
  · exact .inl h3
  · exact .inr ⟨g', cap, cur, e1, e2, by rw [heap_setCell_other _ _ _ _ (by simp; omega)]; exact e3, e4⟩
set_option maxRecDepth 100000 in
theorem cell_setOther {w : World} {g k b o : Nat} {u : Value} (h : b ≠ g) : (w.setCell ⟨g, k, none⟩ u).cell? ⟨b, o, none⟩ = w.cell? ⟨b, o, none⟩ := by
  have e := heap_setCell_other w ⟨g, k, none⟩ b u (by simpa using h)
  simp only [World.cell?, e]
/-- All blocks but one are as they were. -/
def Keep (W W' : World) (r : Nat) : Prop := ∀ k, k < W.heap.size → k ≠ r → W'.heap[k]? = W.heap[k]?
set_option maxRecDepth 100000 in
theorem Keep.cell {W W' : World} {r b o : Nat} {v : Value} (h : Keep W W' r) (hb : b ≠ r) (hc : W.cell? ⟨b, o, none⟩ = some v) : W'.cell? ⟨b, o, none⟩ = some v := by
  have e := h b (World.block_lt_of_cell? W _ hc) hb
  rw [← hc]
  simp only [World.cell?, e]
set_option maxRecDepth 100000 in
theorem Keep.of_grown {W W' : World} {r : Nat} (h : W.grownBy W' (some r)) : Keep W W' r := fun k hk hne => h.block k hk (by simpa using hne)
set_option maxRecDepth 100000 in
theorem Keep.of_below {W W' : World} (r : Nat) (h : Below W.heap.size W W') : Keep W W' r := fun k hk _ => h.block k hk
set_option maxRecDepth 100000 in
theorem Keep.trans {W W' W'' : World} {r : Nat} (h : Keep W W' r) (hs : W.heap.size ≤ W'.heap.size) (h2 : Keep W' W'' r) : Keep W W'' r := fun k hk hne => (h2 k (Nat.lt_of_lt_of_le hk hs) hne).trans (h k hk hne)
set_option maxRecDepth 100000 in
theorem Keep.set {W : World} (g k : Nat) (u : Value) : Keep W (W.setCell ⟨g, k, none⟩ u) g := fun j _ hne => heap_setCell_other _ _ _ _ (by simpa using hne)
/-- A word: its bytes, and where they lie: ahead of the call, or in a row of bytes. -/
def WI (z : Nat) (W : World) (v : Value) (l : List Nat) : Prop := Sees W v l ∧ ∀ k, v.ownBlock = some k → k < z ∨ ∃ cs, W.heap[k]? = some (.cells cs 5 (0, 0))
set_option maxRecDepth 100000 in
theorem Sees.keep {W W' : World} {r : Nat} {v : Value} {l : List Nat} (h : Sees W v l) (hk : Keep W W' r) (hr : ∀ k, v.ownBlock = some k → k ≠ r) : Sees W' v l := by
  obtain ⟨h1, h2 | h2 | ⟨b, o, cap, rfl, h3, h4, h5, h6⟩⟩ := h
  · exact ⟨h1, .inl h2⟩
  · exact ⟨h1, .inr (.inl h2)⟩
  · exact ⟨h1, .inr (.inr ⟨b, o, cap, rfl, h3, h4, h5, fun i hi => hk.cell (hr b rfl) (h6 i hi)⟩)⟩
set_option maxRecDepth 100000 in
theorem WI.keep {z : Nat} {W W' : World} {r : Nat} {v : Value} {l : List Nat} {cs : Array Value} {t : TypeId} (h : WI z W v l) (hk : Keep W W' r) (hz : z ≤ r) (hr : W.heap[r]? = some (.cells cs t (0, 0))) (ht : t ≠ 5) : WI z W' v l := by
  have hne : ∀ k, v.ownBlock = some k → k ≠ r := fun k hb e => by
    rcases h.2 k hb with h1 | ⟨c2, h1⟩
    · omega
    · rw [e, hr] at h1
      simp only [Option.some.injEq, Obj.cells.injEq] at h1
      exact ht h1.2.1
  refine ⟨h.1.keep hk hne, fun k hb => ?_⟩
  rcases h.2 k hb with h1 | ⟨c2, h1⟩
  · exact .inl h1
  · exact .inr ⟨c2, (hk k (blk_lt h1) (hne k hb)).trans h1⟩
set_option maxRecDepth 100000 in
theorem WI.below {z : Nat} {W W' : World} {v : Value} {l : List Nat} (h : WI z W v l) (hb : Below W.heap.size W W') : WI z W' v l :=
  ⟨h.1.below hb, fun k hk => by
    rcases h.2 k hk with h1 | ⟨c2, h1⟩
    · exact .inl h1
    · exact .inr ⟨c2, (hb.block _ (blk_lt h1)).trans h1⟩⟩
set_option maxRecDepth 100000 in
/-- Words behind an append to the slice that holds them. -/
theorem WI.append {z : Nat} {W W' : World} {base : Nat} {v vw : Value} {l : List Nat} {xs : List Value} (h : WI z W v l) (ho : OwnV W base vw xs) (hg : W.grownBy W' vw.ownBlock) (hz : z ≤ base) : WI z W' v l := by
  rcases ho.2.2 with ⟨rfl, _⟩ | ⟨g, cap, cur, rfl, hbg, hgg, _⟩
  · have hb : Below W.heap.size W W' := ⟨hg.os, hg.tape, hg.output, hg.size, fun k hk => hg.block k hk (by simp [Value.ownBlock])⟩
    exact h.below hb
  · exact h.keep (r := g) (Keep.of_grown hg) (Nat.le_trans hz hbg) hgg (by decide)
/-- The document's cipher while its words are laid: W2: the world ahead of that. -/
def NS (w W2 : World) (g : Nat) (vb vk : Value) (key : List Nat) (n : Nat) (q : Option Addr) (c : Nat) (xs : List Value) (W : World) : Prop :=
  W.heap[g]? = some (.cells #[.slice q n c, vb, vk] 91 (0, 0)) ∧ OwnV W W2.heap.size (.slice q n c) xs ∧ xs.length = n ∧
  (∀ i, i < n → ∃ x c', xs[i]? = some (.slice x 4 c') ∧ WI w.heap.size W (.slice x 4 c') (lat (wk key 60) i)) ∧
  (∀ k, k < W2.heap.size → k ≠ g → W.heap[k]? = W2.heap[k]?) ∧ Below w.heap.size w W ∧ W2.heap.size ≤ W.heap.size
set_option maxRecDepth 100000 in
theorem NS.below {w W2 W W' : World} {g : Nat} {vb vk : Value} {key : List Nat} {n : Nat} {q : Option Addr} {c : Nat} {xs : List Value} (h : NS w W2 g vb vk key n q c xs W) (hb : Below W.heap.size W W') : NS w W2 g vb vk key n q c xs W' := by
  obtain ⟨h1, h2, h3, h4, h5, h6, h7⟩ := h
  refine ⟨(hb.block _ (blk_lt h1)).trans h1, h2.below hb, h3, fun i hi => ?_, fun k hk hne => (hb.block _ (Nat.lt_of_lt_of_le hk h7)).trans (h5 k hk hne), h6.trans (hb.mono h6.size), Nat.le_trans h7 hb.size⟩
  obtain ⟨x, c', e1, e2⟩ := h4 i hi
  exact ⟨x, c', e1, e2.below hb⟩
set_option maxRecDepth 100000 in
theorem NS.push {w W2 W : World} {g : Nat} {vb vk : Value} {key : List Nat} {n : Nat} {q : Option Addr} {c : Nat} {xs : List Value} (h : NS w W2 g vb vk key n q c xs W) (hg : g < W2.heap.size) (hwg : w.heap.size ≤ g) (hn : n < 60) (x : Option Addr) (c' : Nat) (hx : WI w.heap.size W (.slice x 4 c') (lat (wk key 60) n)) :
    ∃ q' cp w1, (Builtin.append_ #[63, 63] 63 #[.slice q n c, .slice (some ⟨W.heap.size, 0, none⟩) 1 1]).run Tryz.prog (W.alloc (.cells #[.slice x 4 c'] 31)) = .ok (.slice q' (n + 1) cp) w1 ∧
      w1.heap[g]? = some (.cells #[.slice q n c, vb, vk] 91 (0, 0)) ∧ Below w.heap.size w w1 ∧ NS w W2 g vb vk key (n + 1) q' cp (xs ++ [.slice x 4 c']) (w1.setCell ⟨g, 0, none⟩ (.slice q' (n + 1) cp)) := by
  obtain ⟨h1, h2, rfl, h4, h5, h6, h7⟩ := h
  obtain ⟨q', cp, w1, hr, ho, hb, hgr⟩ := h2.push (by omega) h7 x c'
  have hal : Below W.heap.size W (W.alloc (.cells #[.slice x 4 c'] 31)) := (Below.refl _ _).alloc (Nat.le_refl _) _
  have hwb : w.heap.size ≤ W2.heap.size := by omega
  have hg1 : w1.heap[g]? = some (.cells #[.slice q xs.length c, vb, vk] 91 (0, 0)) := (hb.block _ hg).trans h1
  have wi1 : ∀ v l, WI w.heap.size W v l → WI w.heap.size w1 v l := fun v l hw => (hw.below hal).append (h2.below hal) hgr hwb
  have wi2 : ∀ v l, WI w.heap.size w1 v l → WI w.heap.size (w1.setCell ⟨g, 0, none⟩ (.slice q' (xs.length + 1) cp)) v l := fun v l hw => hw.keep (Keep.set g 0 _) hwg hg1 (by decide)
  refine ⟨q', cp, w1, hr, hg1, h6.trans (hb.mono hwb), ?_, ho.setOther hg, by simp, fun i hi => ?_, fun k hk hne => ?_, (h6.trans (hb.mono hwb)).setCell hwg _, by simpa using Nat.le_trans h7 hb.size⟩
  · exact (heap_setCell_same _ _ _ _ _ _ hg1).trans rfl
  · rcases Nat.lt_or_ge i xs.length with h | h
    · obtain ⟨x2, c2, e1, e2⟩ := h4 i h
      exact ⟨x2, c2, by rw [List.getElem?_append_left h]; exact e1, wi2 _ _ (wi1 _ _ e2)⟩
    · obtain rfl : i = xs.length := by omega
      exact ⟨x, c', by simp, wi2 _ _ (wi1 _ _ hx)⟩
  · rw [heap_setCell_other _ _ _ _ (by simpa using hne), hb.block _ hk]; exact h5 k hk hne
set_option maxRecDepth 100000 in
theorem Own.wi {W : World} {b z : Nat} {q : Option Addr} {c : Nat} {l : List Nat} (h : Own W b (.slice q 4 c) l) : WI z W (.slice q 4 c) l := by
  refine ⟨h.sees, fun k hk => ?_⟩
  rcases h.2.2 with ⟨hv, _⟩ | ⟨g, cap, cur, hv, _, hg, _⟩
  · simp at hv
  · rw [hv] at hk
    simp only [Value.ownBlock, Option.some.injEq] at hk
    rw [← hk]
    exact .inr ⟨cur, hg⟩
set_option maxRecDepth 100000 in
theorem NS.re {w W2 W : World} {g : Nat} {vb vk : Value} {key : List Nat} {n : Nat} {q : Option Addr} {c : Nat} {xs : List Value} {v : Value} {l : List Nat} (h : NS w W2 g vb vk key n q c xs W) (hs : Sees W2 v l) (hne : ∀ k, v.ownBlock = some k → k ≠ g) : Sees W v l :=
  hs.keep (r := g) (fun k hk hn => h.2.2.2.2.1 k hk hn) hne
set_option maxRecDepth 100000 in
/-- The word n, and the slice that holds all. -/
theorem NS.word {w W2 W : World} {g : Nat} {vb vk : Value} {key : List Nat} {n : Nat} {q : Option Addr} {c : Nat} {xs : List Value} (h : NS w W2 g vb vk key n q c xs W) (h0 : 0 < n) :
    ∃ gw, q = some ⟨gw, 0, none⟩ ∧ ∀ i, i < n → ∃ x c', W.cell? ⟨gw, i, none⟩ = some (.slice x 4 c') ∧ WI w.heap.size W (.slice x 4 c') (lat (wk key 60) i) := by
  obtain ⟨h1, h2, h3, h4, h5, h6, h7⟩ := h
  obtain ⟨gw, cap, hv, _, _, _, _, hc⟩ := h2.cells (by omega)
  simp only [Value.slice.injEq] at hv
  refine ⟨gw, hv.1, fun i hi => ?_⟩
  obtain ⟨x, c', e1, e2⟩ := h4 i hi
  refine ⟨x, c', ?_, e2⟩
  rw [hc i (by omega)]
  rw [List.getElem?_eq_getElem (show i < xs.length by omega)] at e1
  exact e1
set_option maxRecDepth 100000 in
theorem lat_next (key : List Nat) (n : Nat) (h8 : 8 ≤ n) (hn : n < 60) : lat (wk key 60) n = xorl 4 (lat (wk key 60) (n - 8)) (addw (lat (wk key 60) (n - 1)) n) := by
  rw [wk_last key n hn, nextw, if_neg (by omega)]
  have e1 := wk_get key n (n - 8) (by omega) (60 - n)
  have e2 := wk_get key n (n - 1) (by omega) (60 - n)
  rw [show n + (60 - n) = 60 by omega] at e1 e2
  rw [← e1, ← e2]
  rfl
set_option maxRecDepth 100000 in
theorem addw_0 (l : List Nat) (n : Nat) (h : n % 8 = 0) : addw l n = (boxl [at_ l 1, at_ l 2, at_ l 3, at_ l 0]).set 0 (Nat.xor (box (at_ l 1)) (npow 2 (n / 8 - 1))) := by
  unfold addw; rw [if_pos h]; rfl
set_option maxRecDepth 100000 in
theorem addw_4 {l : List Nat} (hl : l.length = 4) (n : Nat) (h : n % 8 = 4) : addw l n = boxl l := by
  unfold addw; rw [if_neg (by omega), if_pos h]
  unfold boxl
  rw [hl]; rfl
set_option maxRecDepth 100000 in
theorem addw_n (l : List Nat) (n : Nat) (h : n % 8 ≠ 0) (h4 : n % 8 ≠ 4) : addw l n = l := by unfold addw; rw [if_neg h, if_neg h4]
end Go.Proofs.YtpkeofioobmmoaaGreatDoor.ae
