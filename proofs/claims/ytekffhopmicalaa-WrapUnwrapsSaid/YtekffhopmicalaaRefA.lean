/-
  Contracts of the document's own functions of packages gf and aes: the boxes, the byte of a box, a text of boxes, two texts xor'ed. Condition: the numbers are bytes.
-/
import Derived.Test.YtekffhopmicalaaXtsR
import Derived.Test.YtekffhopmicalaaY
namespace Go.Proofs.Ytekffhopmicalaa
open Go.RowKit
theorem Own.drew {w : World} {base : Nat} {v : Value} {xs : List Nat} (h : Own w base v xs) : Own w.drew base v xs := h.below (Below.refl _ _).drew
/-- An append whose run is known, in a region that draws. -/
theorem step_app {ops : Array Oper} {o : Oper} {a : Act} {w : World} {K : Act → World → Prop} {Q : Exit → Act → World → Prop} {E : Prop} (hgd : o.guard = none) (s x : Operand)
    (ho : o.op = .call { callee := .builtin .append, args := #[s, x], argTypes := #[28, 28] }) (hty : o.type = 28) {v u v' : Value} {w' : World} (hs : a.eval s = v) (hx : a.eval x = u) (hr : (Builtin.append_ #[28, 28] 28 #[v, u]).run Try.prog w = .ok v' w')
    (hK : K (a.put o.dst v') w') : if Region.wanted o (yielded ops a.tmps) = true then Oper.wp Try.prog o a w K Q else E := by
  have hw : Region.wanted o (yielded ops a.tmps) = true := by simp [Region.wanted, hgd]
  rw [if_pos hw]
  unfold Oper.wp
  simp [execOp, ho, hty, resolve, invoke, builtin, hs, hx, hr, Result.andThen]
  exact hK
set_option maxRecDepth 100000 in
set_option maxHeartbeats 2000000 in
theorem refBoxes (w : World) : Calls Try.prog 41 #[] w (OwnP w bxs) := by
  go_enter Try.func41, Try.ntmps41
  go_wp2_with fail
  go_loopw [1, 2] (fun v vi wr => ∃ (i : Nat) (q : Option Addr) (c : Nat), i ≤ 256 ∧ vi = .int .i64 i ∧ v = .slice q i c ∧ Own wr w.heap.size (.slice q i c) (tab i box) ∧ Below w.heap.size w wr) (fun _ vi _ => 256 - (intOf vi).toNat)
  case atStart => exact ⟨0, none, 0, by omega, rfl, rfl, own_nil _ _, Below.refl _ _⟩
  case round =>
    obtain ⟨i, q, c, hi, rfl, rfl, ho, hb⟩ := hrel
    by_cases hlt : i < 256
    · have hi16 : (i : Int) < 256 := by omega
      have e8 := u8nat i hlt
      have HO := Lib.hid ho
      have HB := Lib.hid hb
      have RB : Hid (∀ W, Calls Try.prog 68 #[.int .u8 i] W fun e w' => e = .returned (.int .u8 (box i : Nat)) ∧ Below W.heap.size W w') := fun W => refBox i hlt W
      have bl := box_lt hlt
      clear ho hb
      go_wp2_with fail
      refine (RB.out _).mono ?_
      rintro e w2 ⟨rfl, hb⟩
      obtain ⟨q1, c1, w1, hr, ho1, hb1⟩ := (HO.out.below hb).push bl (by rw [tab_len]; omega) (Nat.le_trans HB.out.size hb.size)
      rw [← tab_succ, tab_len] at ho1
      rw [tab_len] at hr
      have HO1 := Lib.hid ho1
      have HR := Lib.hid hr
      have HB1 := Lib.hid ((HB.out.trans (hb.mono HB.out.size)).trans hb1)
      clear ho1 hr hb1 hb HO HB bl
      generalize box i = x at *
      go_wp2_with (at_builtin; refine wpList_app rfl _ _ rfl rfl rfl rfl HR.out ?_)
      go_roundw
      case rel => exact ⟨i + 1, q1, c1, by omega, by go_num, rfl, HO1.out, HB1.out⟩
      case measure => simp [intOf]; omega
    · obtain rfl : i = 256 := by omega
      have HO : Hid (Own wr w.heap.size (.slice q 256 c) bxs) := ho
      have HB := Lib.hid hb
      have hl : Hid (bxs.length = 256) := bxs_len
      clear ho hb
      go_wp2_with fail
      go_ret
      unfold OwnP
      rw [hl.out]
      exact ⟨q, c, rfl, HO.out, HB.out⟩
theorem box_inj {a b : Nat} (ha : a < 256) (hb : b < 256) (h : box a = box b) : a = b := by rw [← kb ha, ← kb hb, h]
set_option maxRecDepth 100000 in
set_option maxHeartbeats 2000000 in
theorem refUnbox (a : Nat) (ha : a < 256) (x : Option Addr) (cap : Nat) (w : World) (hs : Sees w (.slice x 256 cap) bxs) : Calls Try.prog 42 #[.slice x 256 cap, .int .u8 a] w fun e w' => e = .returned (.int .u8 (at_ kxs a : Nat)) ∧ w = w' := by
  have hne : bxs ≠ [] := fun e => by have := bxs_len; rw [e] at this; simp at this
  obtain ⟨b, o, rfl, hlx, hcl, hcm, hc⟩ := hs.cells hne
  have HC : Hid (∀ i, i < 256 → w.cell? ⟨b, o + i, none⟩ = some (.int .u8 (box i : Nat))) := fun i hi => by rw [hc i (by rw [bxs_len]; exact hi), bxs_at hi]
  have HA : Hid (box (at_ kxs a) = a) := bk ha
  have HL : Hid (at_ kxs a < 256) := kxs_bts.at_lt a
  have BX : Hid (∀ i, i < 256 → box i < 256) := fun i hi => box_lt hi
  have BI : Hid (∀ i, i < 256 → box i = a → i = at_ kxs a) := fun i hi h => by rw [← h, kb hi]
  clear hlx hcl hcm hc hs hne
  go_enter Try.func42, Try.ntmps42
  go_wp2_with fail
  go_loop [4, 5] (fun _ vi => ∃ i : Nat, i ≤ 256 ∧ vi = .int .i64 i ∧ i ≤ at_ kxs a) (fun _ vi => 256 - (intOf vi).toNat)
  case atStart => exact ⟨0, by omega, rfl, by omega⟩
  case round =>
    obtain ⟨i, hi, rfl, hle⟩ := hrel
    have hlt : i < 256 := by have := HL.out; omega
    have hi16 : (i : Int) < 256 := by omega
    have cx := HC.out i hlt
    have e8 := u8nat i hlt
    have bl := BX.out i hlt
    by_cases he : box i = a
    · have hk := BI.out i hlt he
      have ha2 : ((box i : Nat) : Int) = (a : Int) := by rw [he]
      have HK := Lib.hid hk
      have hq : (((box i : Nat) : Int) == (a : Int)) = true := by rw [ha2]; simp
      have HH := Lib.hid ha2
      clear he hk ha2
      generalize box i = z at *
      go_wp2_with fail
      go_ret
      refine ⟨?_, rfl⟩
      rw [← HK.out]
      rfl
    · have hq : (((box i : Nat) : Int) == (a : Int)) = false := by simp; omega
      have hne : i ≠ at_ kxs a := fun h => he (by rw [h]; exact HA.out)
      have H2 : Hid (i + 1 ≤ at_ kxs a) := by show _ ≤ _; omega
      clear he hne hle
      generalize box i = z at *
      go_wp2_with fail
      go_round
      case rel => exact ⟨i + 1, by omega, by go_num, H2.out⟩
      case measure => simp [intOf]; omega
/-- What lies in memory of the document's cipher: its boxes. -/
def boxl (xs : List Nat) : List Nat := tab xs.length fun i => box (at_ xs i)
theorem boxl_len (xs : List Nat) : (boxl xs).length = xs.length := tab_len _ _
theorem boxl_byt {xs : List Nat} (h : Byt xs) : Byt (boxl xs) := (tab_bts (n := xs.length) fun i _ => box_lt (h.at i)).2
set_option maxRecDepth 100000 in
set_option maxHeartbeats 4000000 in
theorem refBoxed (g : Nat) (y : Option Addr) (cy : Nat) (x : Option Addr) (L cap : Nat) (xs : List Nat) (w : World) (hL : L = xs.length) (h4 : L ≤ 100) (hg : w.cell? ⟨g, 1, none⟩ = some (.slice y 256 cy)) (hy : Sees w (.slice y 256 cy) bxs) (hs : Sees w (.slice x L cap) xs) :
    Calls Try.prog 43 #[.pointer (some ⟨g, 0, none⟩), .slice x L cap] w (OwnP w (boxl xs)) := by
  have hne : bxs ≠ [] := fun e => by have := bxs_len; rw [e] at this; simp at this
  obtain ⟨b, o, rfl, hlx, hcl, hcm, hc⟩ := hy.cells hne
  have HC : Hid (∀ i, i < 256 → w.cell? ⟨b, o + i, none⟩ = some (.int .u8 (box i : Nat))) := fun i hi => by rw [hc i (by rw [bxs_len]; exact hi), bxs_at hi]
  have LBX : Hid (b < w.heap.size) := World.block_lt_of_cell? w _ (HC.out 0 (by omega))
  have LG : Hid (g < w.heap.size) := World.block_lt_of_cell? w _ hg
  have HG := Lib.hid hg
  have HLX := Lib.hid hL
  have HY := Lib.hid hs.1
  have HS : Hid (∀ i, i < L → ∃ bb oo, x = some ⟨bb, oo, none⟩ ∧ bb < w.heap.size ∧ w.cell? ⟨bb, oo + i, none⟩ = some (.int .u8 (at_ xs i : Nat))) := fun i hi => by
    obtain ⟨bb, oo, h1, _, _, _, h5⟩ := hs.cells (fun e => by rw [e] at hL; simp at hL; omega)
    exact ⟨bb, oo, h1, World.block_lt_of_cell? w _ (h5 i (by omega)), h5 i (by omega)⟩
  have hLi : (L : Int) ≤ 100 := by omega
  have OL : Hid (tab L (fun i => box (at_ xs i)) = boxl xs) := by show _ = _; rw [hL]; rfl
  clear hne hlx hcl hcm hc hy hg hs hL
  go_enter Try.func43, Try.ntmps43
  go_wp2_with fail
  go_loopw [5, 6] (fun v vi wr => ∃ (i : Nat) (q : Option Addr) (c : Nat), i ≤ L ∧ vi = .int .i64 i ∧ v = .slice q i c ∧ Own wr w.heap.size (.slice q i c) (tab i (fun i => box (at_ xs i))) ∧ Below w.heap.size w wr) (fun _ vi _ => L - (intOf vi).toNat)
  case atStart => exact ⟨0, none, 0, by omega, rfl, rfl, own_nil _ _, Below.refl _ _⟩
  case round =>
    obtain ⟨i, q, c, hi, rfl, rfl, ho, hb⟩ := hrel
    by_cases hlt : i < L
    · obtain ⟨bb, oo, rfl, LBB, hcx⟩ := HS.out i hlt
      have hi16 : (i : Int) < (L : Int) := by omega
      have xl := HY.out.at i
      have CX := Lib.hid hcx
      have LBBh := Lib.hid LBB
      have CB := Lib.hid (HC.out _ xl)
      obtain ⟨q1, c1, w1, hr, ho1, hb1⟩ := ho.drew.push (x := box (at_ xs i)) (box_lt xl) (by rw [tab_len]; omega) hb.size
      rw [← tab_succ i (fun i => box (at_ xs i)), tab_len] at ho1
      rw [tab_len] at hr
      have HO1 := Lib.hid ho1
      have HR := Lib.hid hr
      have HBB := Lib.hid hb
      have HB2 := Lib.hid (hb.drew.trans hb1)
      clear ho1 hr hb1 ho hb LBB hcx
      generalize box (at_ xs i) = z at *
      generalize at_ xs i = e at *
      have xl' : (e : Int) < 256 := by omega
      go_wp2_with fail
      refine wp_region_held_drew (S := fun W => Below w.heap.size w W) (by kernel_rfl) HBB.out.drew (fun hS => ?_)
      refine' wpAnyH_take (i := 0) ?h1x0p ?hsx0p ?hfx0p ?hrx0p ?hQx0p (Or.inl ⟨?hwx0p, ?hyx0p⟩) hS ?restx0p
      case h1x0p => (simp only [List.getElem?_toArray, List.getElem?_cons_zero]; rfl)
      case hsx0p => kernel_rfl
      case hfx0p => kernel_rfl
      case hrx0p => kernel_rfl
      case hQx0p => exact fun _ _ _ h => h
      case hwx0p => rfl
      case hyx0p =>
        intro W hW
        go_simp
        try with_reducible rfl
      simp only [Act.put, List.setIfInBounds_toArray, List.set_cons_succ, List.set_cons_zero]
      refine' wpAnyH_take (i := 1) ?h1x1p ?hsx1p ?hfx1p ?hrx1p ?hQx1p (Or.inl ⟨?hwx1p, ?hyx1p⟩) hS ?restx1p
      case h1x1p => (simp only [List.getElem?_toArray, List.getElem?_cons_succ, List.getElem?_cons_zero]; rfl)
      case hsx1p => kernel_rfl
      case hfx1p => kernel_rfl
      case hrx1p => kernel_rfl
      case hQx1p => exact fun _ _ _ h => h
      case hwx1p => rfl
      case hyx1p =>
        intro W hW
        go_simp
        try with_reducible rfl
      simp only [Act.put, List.setIfInBounds_toArray, List.set_cons_succ, List.set_cons_zero]
      refine' wpAnyH_take (i := 2) ?h1x2p ?hsx2p ?hfx2p ?hrx2p ?hQx2p (Or.inl ⟨?hwx2p, ?hyx2p⟩) hS ?restx2p
      case h1x2p => (simp only [List.getElem?_toArray, List.getElem?_cons_succ, List.getElem?_cons_zero]; rfl)
      case hsx2p => kernel_rfl
      case hfx2p => kernel_rfl
      case hrx2p => kernel_rfl
      case hQx2p => exact fun _ _ _ h => h
      case hwx2p => rfl
      case hyx2p =>
        intro W hW
        go_simp
        try with_reducible rfl
      simp only [Act.put, List.setIfInBounds_toArray, List.set_cons_succ, List.set_cons_zero]
      refine' wpAnyH_take (i := 3) ?h1x3p ?hsx3p ?hfx3p ?hrx3p ?hQx3p (Or.inl ⟨?hwx3p, ?hyx3p⟩) hS ?restx3p
      case h1x3p => (simp only [List.getElem?_toArray, List.getElem?_cons_succ, List.getElem?_cons_zero]; rfl)
      case hsx3p => kernel_rfl
      case hfx3p => kernel_rfl
      case hrx3p => kernel_rfl
      case hQx3p => exact fun _ _ _ h => h
      case hwx3p => rfl
      case hyx3p =>
        intro W hW
        go_simp
        try with_reducible rfl
      simp only [Act.put, List.setIfInBounds_toArray, List.set_cons_succ, List.set_cons_zero]
      refine' wpAnyH_take (i := 4) ?h1x4p ?hsx4p ?hfx4p ?hrx4p ?hQx4p (Or.inl ⟨?hwx4p, ?hyx4p⟩) hS ?restx4p
      case h1x4p => (simp only [List.getElem?_toArray, List.getElem?_cons_succ, List.getElem?_cons_zero]; rfl)
      case hsx4p => kernel_rfl
      case hfx4p => kernel_rfl
      case hrx4p => kernel_rfl
      case hQx4p => exact fun _ _ _ h => h
      case hwx4p => rfl
      case hyx4p =>
        intro W hW
        have dd := (hW.cell (p := ⟨g, 1, none⟩) LG.out).trans HG.out
        go_simp
        try with_reducible rfl
      simp only [Act.put, List.setIfInBounds_toArray, List.set_cons_succ, List.set_cons_zero]
      refine' wpAnyH_take (i := 5) ?h1x5p ?hsx5p ?hfx5p ?hrx5p ?hQx5p (Or.inl ⟨?hwx5p, ?hyx5p⟩) hS ?restx5p
      case h1x5p => (simp only [List.getElem?_toArray, List.getElem?_cons_succ, List.getElem?_cons_zero]; rfl)
      case hsx5p => kernel_rfl
      case hfx5p => kernel_rfl
      case hrx5p => kernel_rfl
      case hQx5p => exact fun _ _ _ h => h
      case hwx5p => rfl
      case hyx5p =>
        intro W hW
        go_simp
        try with_reducible rfl
      simp only [Act.put, List.setIfInBounds_toArray, List.set_cons_succ, List.set_cons_zero]
      refine' wpAnyH_take (i := 6) ?h1x6p ?hsx6p ?hfx6p ?hrx6p ?hQx6p (Or.inl ⟨?hwx6p, ?hyx6p⟩) hS ?restx6p
      case h1x6p => (simp only [List.getElem?_toArray, List.getElem?_cons_succ, List.getElem?_cons_zero]; rfl)
      case hsx6p => kernel_rfl
      case hfx6p => kernel_rfl
      case hrx6p => kernel_rfl
      case hQx6p => exact fun _ _ _ h => h
      case hwx6p => rfl
      case hyx6p =>
        intro W hW
        go_simp
        try with_reducible rfl
      simp only [Act.put, List.setIfInBounds_toArray, List.set_cons_succ, List.set_cons_zero]
      refine' wpAnyH_take (i := 7) ?h1x7p ?hsx7p ?hfx7p ?hrx7p ?hQx7p (Or.inl ⟨?hwx7p, ?hyx7p⟩) hS ?restx7p
      case h1x7p => (simp only [List.getElem?_toArray, List.getElem?_cons_succ, List.getElem?_cons_zero]; rfl)
      case hsx7p => kernel_rfl
      case hfx7p => kernel_rfl
      case hrx7p => kernel_rfl
      case hQx7p => exact fun _ _ _ h => h
      case hwx7p => rfl
      case hyx7p =>
        intro W hW
        go_simp
        try with_reducible rfl
      simp only [Act.put, List.setIfInBounds_toArray, List.set_cons_succ, List.set_cons_zero]
      refine' wpAnyH_take (i := 8) ?h1x8p ?hsx8p ?hfx8p ?hrx8p ?hQx8p (Or.inl ⟨?hwx8p, ?hyx8p⟩) hS ?restx8p
      case h1x8p => (simp only [List.getElem?_toArray, List.getElem?_cons_succ, List.getElem?_cons_zero]; rfl)
      case hsx8p => kernel_rfl
      case hfx8p => kernel_rfl
      case hrx8p => kernel_rfl
      case hQx8p => exact fun _ _ _ h => h
      case hwx8p => rfl
      case hyx8p =>
        intro W hW
        have dd := (hW.cell (p := ⟨bb, oo + i, none⟩) LBBh.out).trans CX.out
        go_simp
        try with_reducible rfl
      simp only [Act.put, List.setIfInBounds_toArray, List.set_cons_succ, List.set_cons_zero]
      refine' wpAnyH_take (i := 9) ?h1x9p ?hsx9p ?hfx9p ?hrx9p ?hQx9p (Or.inl ⟨?hwx9p, ?hyx9p⟩) hS ?restx9p
      case h1x9p => (simp only [List.getElem?_toArray, List.getElem?_cons_succ, List.getElem?_cons_zero]; rfl)
      case hsx9p => kernel_rfl
      case hfx9p => kernel_rfl
      case hrx9p => kernel_rfl
      case hQx9p => exact fun _ _ _ h => h
      case hwx9p => rfl
      case hyx9p =>
        intro W hW
        go_simp
        try with_reducible rfl
      simp only [Act.put, List.setIfInBounds_toArray, List.set_cons_succ, List.set_cons_zero]
      refine' wpAnyH_take (i := 10) ?h1x10p ?hsx10p ?hfx10p ?hrx10p ?hQx10p (Or.inl ⟨?hwx10p, ?hyx10p⟩) hS ?restx10p
      case h1x10p => (simp only [List.getElem?_toArray, List.getElem?_cons_succ, List.getElem?_cons_zero]; rfl)
      case hsx10p => kernel_rfl
      case hfx10p => kernel_rfl
      case hrx10p => kernel_rfl
      case hQx10p => exact fun _ _ _ h => h
      case hwx10p => rfl
      case hyx10p =>
        intro W hW
        have dd := (hW.cell (p := ⟨b, o + e, none⟩) LBX.out).trans CB.out
        go_simp
        try with_reducible rfl
      simp only [Act.put, List.setIfInBounds_toArray, List.set_cons_succ, List.set_cons_zero]
      refine wpAnyH_ready (rs := [11]) (by kernel_rfl) (by simp) ?_
      refine' AllReadyH.cons ?hoc11p (fun K hK => ?stc11p) AllReadyH.nil
      case hoc11p => (simp only [List.getElem?_toArray, List.getElem?_cons_succ, List.getElem?_cons_zero]; rfl)
      go_simp
      refine hK.out _ _ (hS.alloc hS.size _) (fun hHeld => ?_)
      clear hK K
      try simp only [Act.put, List.setIfInBounds_toArray, List.set_cons_succ, List.set_cons_zero]
      clear hS
      have hS := hHeld
      clear hHeld
      refine wpAnyH_ready (rs := [12]) (by kernel_rfl) (by simp) ?_
      refine' AllReadyH.cons ?hoc12p (fun K hK => ?stc12p) AllReadyH.nil
      case hoc12p => (simp only [List.getElem?_toArray, List.getElem?_cons_succ, List.getElem?_cons_zero]; rfl)
      refine step_app rfl _ _ rfl rfl rfl rfl HR.out ?_
      refine hK.out _ _ HB2.out (fun hHeld => ?_)
      clear hK K
      try simp only [Act.put, List.setIfInBounds_toArray, List.set_cons_succ, List.set_cons_zero]
      clear hS
      have hS := hHeld
      clear hHeld
      refine' wpAnyH_take (i := 13) ?h1x13p ?hsx13p ?hfx13p ?hrx13p ?hQx13p (Or.inl ⟨?hwx13p, ?hyx13p⟩) hS ?restx13p
      case h1x13p => (simp only [List.getElem?_toArray, List.getElem?_cons_succ, List.getElem?_cons_zero]; rfl)
      case hsx13p => kernel_rfl
      case hfx13p => kernel_rfl
      case hrx13p => kernel_rfl
      case hQx13p => exact fun _ _ _ h => h
      case hwx13p => rfl
      case hyx13p =>
        intro W hW
        go_simp
        try with_reducible rfl
      simp only [Act.put, List.setIfInBounds_toArray, List.set_cons_succ, List.set_cons_zero]
      refine wpAnyH_done (by kernel_rfl) ?_ _
      go_wp2_with fail
      go_roundw
      case rel => exact ⟨i + 1, q1, c1, by omega, by go_num, rfl, HO1.out, HB2.out⟩
      case measure => simp [intOf]; omega
    · obtain rfl : i = L := by omega
      rw [OL.out] at ho
      have HO := Lib.hid ho
      have HB := Lib.hid hb
      have hl : Hid ((boxl xs).length = i) := by show _ = _; rw [boxl_len, HLX.out]
      clear ho hb
      go_wp2_with fail
      go_ret
      unfold OwnP
      rw [hl.out]
      exact ⟨q, c, rfl, HO.out, HB.out⟩
/-- Two texts xor'ed, as far as the first goes. -/
def xorl (n : Nat) (xs ys : List Nat) : List Nat := tab n fun i => Nat.xor (at_ xs i) (at_ ys i)
set_option maxRecDepth 100000 in
set_option maxHeartbeats 4000000 in
theorem refXored (x : Option Addr) (L cap : Nat) (xs : List Nat) (y : Option Addr) (M cy : Nat) (ys : List Nat) (w : World) (hL : L = xs.length) (hM : M = ys.length) (h4 : L ≤ 100) (hLM : L ≤ M) (hs : Sees w (.slice x L cap) xs) (hy : Sees w (.slice y M cy) ys) :
    Calls Try.prog 45 #[.slice x L cap, .slice y M cy] w (OwnP w (xorl L xs ys)) := by
  have HX := Lib.hid hs.1
  have HY := Lib.hid hy.1
  have HS : Hid (∀ i, i < L → ∃ bb oo, x = some ⟨bb, oo, none⟩ ∧ bb < w.heap.size ∧ w.cell? ⟨bb, oo + i, none⟩ = some (.int .u8 (at_ xs i : Nat))) := fun i hi => by
    obtain ⟨bb, oo, h1, _, _, _, h5⟩ := hs.cells (fun e => by rw [e] at hL; simp at hL; omega)
    exact ⟨bb, oo, h1, World.block_lt_of_cell? w _ (h5 i (by omega)), h5 i (by omega)⟩
  have HT : Hid (∀ i, i < L → ∃ bb oo, y = some ⟨bb, oo, none⟩ ∧ bb < w.heap.size ∧ w.cell? ⟨bb, oo + i, none⟩ = some (.int .u8 (at_ ys i : Nat))) := fun i hi => by
    obtain ⟨bb, oo, h1, _, _, _, h5⟩ := hy.cells (fun e => by rw [e] at hM; simp at hM; omega)
    exact ⟨bb, oo, h1, World.block_lt_of_cell? w _ (h5 i (by omega)), h5 i (by omega)⟩
  have hLi : (L : Int) ≤ 100 := by omega
  have hLMi : (L : Int) ≤ (M : Int) := by omega
  clear hs hy hL hM
  go_enter Try.func45, Try.ntmps45
  go_wp2_with fail
  go_loopw [5, 6] (fun v vi wr => ∃ (i : Nat) (q : Option Addr) (c : Nat), i ≤ L ∧ vi = .int .i64 i ∧ v = .slice q i c ∧ Own wr w.heap.size (.slice q i c) (xorl i xs ys) ∧ Below w.heap.size w wr) (fun _ vi _ => L - (intOf vi).toNat)
  case atStart => exact ⟨0, none, 0, by omega, rfl, rfl, own_nil _ _, Below.refl _ _⟩
  case round =>
    obtain ⟨i, q, c, hi, rfl, rfl, ho, hb⟩ := hrel
    by_cases hlt : i < L
    · obtain ⟨bb, oo, rfl, LBB, hcx⟩ := HS.out i hlt
      obtain ⟨bc, oc, rfl, LBC, hcy⟩ := HT.out i hlt
      have hiM : i < M := by omega
      have hi16 : (i : Int) < (L : Int) := by omega
      have xl := HX.out.at i
      have yl := HY.out.at i
      have CX := Lib.hid hcx
      have CY := Lib.hid hcy
      have LBBh := Lib.hid LBB
      have LBCh := Lib.hid LBC
      have X8 := Lib.hid (xor8 (at_ xs i) (at_ ys i) xl yl)
      obtain ⟨q1, c1, w1, hr, ho1, hb1⟩ := ho.drew.push (x := Nat.xor (at_ xs i) (at_ ys i)) (xor_lt xl yl) (by rw [xorl, tab_len]; omega) hb.size
      rw [xorl, ← tab_succ i (fun i => Nat.xor (at_ xs i) (at_ ys i)), tab_len] at ho1
      rw [xorl, tab_len] at hr
      have HO1 := Lib.hid ho1
      have HR := Lib.hid hr
      have HBB := Lib.hid hb
      have HB2 := Lib.hid (hb.drew.trans hb1)
      clear ho1 hr hb1 ho hb LBB hcx LBC hcy
      generalize Nat.xor (at_ xs i) (at_ ys i) = z at *
      generalize at_ xs i = e at *
      generalize at_ ys i = f at *
      go_wp2_with fail
      refine wp_region_held_drew (S := fun W => Below w.heap.size w W) (by kernel_rfl) HBB.out.drew (fun hS => ?_)
      refine' wpAnyH_take (i := 0) ?h1x0p ?hsx0p ?hfx0p ?hrx0p ?hQx0p (Or.inl ⟨?hwx0p, ?hyx0p⟩) hS ?restx0p
      case h1x0p => (simp only [List.getElem?_toArray, List.getElem?_cons_zero]; rfl)
      case hsx0p => kernel_rfl
      case hfx0p => kernel_rfl
      case hrx0p => kernel_rfl
      case hQx0p => exact fun _ _ _ h => h
      case hwx0p => rfl
      case hyx0p =>
        intro W hW
        go_simp
        try with_reducible rfl
      simp only [Act.put, List.setIfInBounds_toArray, List.set_cons_succ, List.set_cons_zero]
      refine' wpAnyH_take (i := 1) ?h1x1p ?hsx1p ?hfx1p ?hrx1p ?hQx1p (Or.inl ⟨?hwx1p, ?hyx1p⟩) hS ?restx1p
      case h1x1p => (simp only [List.getElem?_toArray, List.getElem?_cons_succ, List.getElem?_cons_zero]; rfl)
      case hsx1p => kernel_rfl
      case hfx1p => kernel_rfl
      case hrx1p => kernel_rfl
      case hQx1p => exact fun _ _ _ h => h
      case hwx1p => rfl
      case hyx1p =>
        intro W hW
        go_simp
        try with_reducible rfl
      simp only [Act.put, List.setIfInBounds_toArray, List.set_cons_succ, List.set_cons_zero]
      refine' wpAnyH_take (i := 2) ?h1x2p ?hsx2p ?hfx2p ?hrx2p ?hQx2p (Or.inl ⟨?hwx2p, ?hyx2p⟩) hS ?restx2p
      case h1x2p => (simp only [List.getElem?_toArray, List.getElem?_cons_succ, List.getElem?_cons_zero]; rfl)
      case hsx2p => kernel_rfl
      case hfx2p => kernel_rfl
      case hrx2p => kernel_rfl
      case hQx2p => exact fun _ _ _ h => h
      case hwx2p => rfl
      case hyx2p =>
        intro W hW
        go_simp
        try with_reducible rfl
      simp only [Act.put, List.setIfInBounds_toArray, List.set_cons_succ, List.set_cons_zero]
      refine' wpAnyH_take (i := 3) ?h1x3p ?hsx3p ?hfx3p ?hrx3p ?hQx3p (Or.inl ⟨?hwx3p, ?hyx3p⟩) hS ?restx3p
      case h1x3p => (simp only [List.getElem?_toArray, List.getElem?_cons_succ, List.getElem?_cons_zero]; rfl)
      case hsx3p => kernel_rfl
      case hfx3p => kernel_rfl
      case hrx3p => kernel_rfl
      case hQx3p => exact fun _ _ _ h => h
      case hwx3p => rfl
      case hyx3p =>
        intro W hW
        go_simp
        try with_reducible rfl
      simp only [Act.put, List.setIfInBounds_toArray, List.set_cons_succ, List.set_cons_zero]
      refine' wpAnyH_take (i := 4) ?h1x4p ?hsx4p ?hfx4p ?hrx4p ?hQx4p (Or.inl ⟨?hwx4p, ?hyx4p⟩) hS ?restx4p
      case h1x4p => (simp only [List.getElem?_toArray, List.getElem?_cons_succ, List.getElem?_cons_zero]; rfl)
      case hsx4p => kernel_rfl
      case hfx4p => kernel_rfl
      case hrx4p => kernel_rfl
      case hQx4p => exact fun _ _ _ h => h
      case hwx4p => rfl
      case hyx4p =>
        intro W hW
        have dd := (hW.cell (p := ⟨bb, oo + i, none⟩) LBBh.out).trans CX.out
        go_simp
        try with_reducible rfl
      simp only [Act.put, List.setIfInBounds_toArray, List.set_cons_succ, List.set_cons_zero]
      refine' wpAnyH_take (i := 5) ?h1x5p ?hsx5p ?hfx5p ?hrx5p ?hQx5p (Or.inl ⟨?hwx5p, ?hyx5p⟩) hS ?restx5p
      case h1x5p => (simp only [List.getElem?_toArray, List.getElem?_cons_succ, List.getElem?_cons_zero]; rfl)
      case hsx5p => kernel_rfl
      case hfx5p => kernel_rfl
      case hrx5p => kernel_rfl
      case hQx5p => exact fun _ _ _ h => h
      case hwx5p => rfl
      case hyx5p =>
        intro W hW
        go_simp
        try with_reducible rfl
      simp only [Act.put, List.setIfInBounds_toArray, List.set_cons_succ, List.set_cons_zero]
      refine' wpAnyH_take (i := 6) ?h1x6p ?hsx6p ?hfx6p ?hrx6p ?hQx6p (Or.inl ⟨?hwx6p, ?hyx6p⟩) hS ?restx6p
      case h1x6p => (simp only [List.getElem?_toArray, List.getElem?_cons_succ, List.getElem?_cons_zero]; rfl)
      case hsx6p => kernel_rfl
      case hfx6p => kernel_rfl
      case hrx6p => kernel_rfl
      case hQx6p => exact fun _ _ _ h => h
      case hwx6p => rfl
      case hyx6p =>
        intro W hW
        go_simp
        try with_reducible rfl
      simp only [Act.put, List.setIfInBounds_toArray, List.set_cons_succ, List.set_cons_zero]
      refine' wpAnyH_take (i := 7) ?h1x7p ?hsx7p ?hfx7p ?hrx7p ?hQx7p (Or.inl ⟨?hwx7p, ?hyx7p⟩) hS ?restx7p
      case h1x7p => (simp only [List.getElem?_toArray, List.getElem?_cons_succ, List.getElem?_cons_zero]; rfl)
      case hsx7p => kernel_rfl
      case hfx7p => kernel_rfl
      case hrx7p => kernel_rfl
      case hQx7p => exact fun _ _ _ h => h
      case hwx7p => rfl
      case hyx7p =>
        intro W hW
        go_simp
        try with_reducible rfl
      simp only [Act.put, List.setIfInBounds_toArray, List.set_cons_succ, List.set_cons_zero]
      refine' wpAnyH_take (i := 8) ?h1x8p ?hsx8p ?hfx8p ?hrx8p ?hQx8p (Or.inl ⟨?hwx8p, ?hyx8p⟩) hS ?restx8p
      case h1x8p => (simp only [List.getElem?_toArray, List.getElem?_cons_succ, List.getElem?_cons_zero]; rfl)
      case hsx8p => kernel_rfl
      case hfx8p => kernel_rfl
      case hrx8p => kernel_rfl
      case hQx8p => exact fun _ _ _ h => h
      case hwx8p => rfl
      case hyx8p =>
        intro W hW
        have dd := (hW.cell (p := ⟨bc, oc + i, none⟩) LBCh.out).trans CY.out
        go_simp
        try with_reducible rfl
      simp only [Act.put, List.setIfInBounds_toArray, List.set_cons_succ, List.set_cons_zero]
      refine' wpAnyH_take (i := 9) ?h1x9p ?hsx9p ?hfx9p ?hrx9p ?hQx9p (Or.inl ⟨?hwx9p, ?hyx9p⟩) hS ?restx9p
      case h1x9p => (simp only [List.getElem?_toArray, List.getElem?_cons_succ, List.getElem?_cons_zero]; rfl)
      case hsx9p => kernel_rfl
      case hfx9p => kernel_rfl
      case hrx9p => kernel_rfl
      case hQx9p => exact fun _ _ _ h => h
      case hwx9p => rfl
      case hyx9p =>
        intro W hW
        have dd := X8.out
        go_simp
        try with_reducible rfl
      simp only [Act.put, List.setIfInBounds_toArray, List.set_cons_succ, List.set_cons_zero]
      refine wpAnyH_ready (rs := [10]) (by kernel_rfl) (by simp) ?_
      refine' AllReadyH.cons ?hoc10p (fun K hK => ?stc10p) AllReadyH.nil
      case hoc10p => (simp only [List.getElem?_toArray, List.getElem?_cons_succ, List.getElem?_cons_zero]; rfl)
      go_simp
      refine hK.out _ _ (hS.alloc hS.size _) (fun hHeld => ?_)
      clear hK K
      try simp only [Act.put, List.setIfInBounds_toArray, List.set_cons_succ, List.set_cons_zero]
      clear hS
      have hS := hHeld
      clear hHeld
      refine wpAnyH_ready (rs := [11]) (by kernel_rfl) (by simp) ?_
      refine' AllReadyH.cons ?hoc11p (fun K hK => ?stc11p) AllReadyH.nil
      case hoc11p => (simp only [List.getElem?_toArray, List.getElem?_cons_succ, List.getElem?_cons_zero]; rfl)
      refine step_app rfl _ _ rfl rfl rfl rfl HR.out ?_
      refine hK.out _ _ HB2.out (fun hHeld => ?_)
      clear hK K
      try simp only [Act.put, List.setIfInBounds_toArray, List.set_cons_succ, List.set_cons_zero]
      clear hS
      have hS := hHeld
      clear hHeld
      refine' wpAnyH_take (i := 12) ?h1x12p ?hsx12p ?hfx12p ?hrx12p ?hQx12p (Or.inl ⟨?hwx12p, ?hyx12p⟩) hS ?restx12p
      case h1x12p => (simp only [List.getElem?_toArray, List.getElem?_cons_succ, List.getElem?_cons_zero]; rfl)
      case hsx12p => kernel_rfl
      case hfx12p => kernel_rfl
      case hrx12p => kernel_rfl
      case hQx12p => exact fun _ _ _ h => h
      case hwx12p => rfl
      case hyx12p =>
        intro W hW
        go_simp
        try with_reducible rfl
      simp only [Act.put, List.setIfInBounds_toArray, List.set_cons_succ, List.set_cons_zero]
      refine wpAnyH_done (by kernel_rfl) ?_ _
      go_wp2_with fail
      go_roundw
      case rel => exact ⟨i + 1, q1, c1, by omega, by go_num, rfl, HO1.out, HB2.out⟩
      case measure => simp [intOf]; omega
    · obtain rfl : i = L := by omega
      have HO := Lib.hid ho
      have HB := Lib.hid hb
      have hl : Hid ((xorl i xs ys).length = i) := tab_len _ _
      clear ho hb
      go_wp2_with fail
      go_ret
      unfold OwnP
      rw [hl.out]
      exact ⟨q, c, rfl, HO.out, HB.out⟩
end Go.Proofs.Ytekffhopmicalaa
