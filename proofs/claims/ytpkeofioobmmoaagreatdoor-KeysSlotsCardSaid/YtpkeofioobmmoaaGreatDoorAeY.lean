/-
  Contracts of the functions that the statements of package gf go through: the document's box. Condition: the number is a byte.
-/
import Derived.Test.YtpkeofioobmmoaaGreatDoorAeX
namespace Go.Proofs.YtpkeofioobmmoaaGreatDoor.ae
open Go.RowKit
theorem turnY (j r k : Nat) (z : Int) (hz : z = k) (hj : j < 8) (hk : k ≤ 7) (h : r = (j + k) % 8) : ((j : Int) + z) % 8 = (r : Int) ∧ ((j : Int) + z).tmod 8 = (r : Int) ∧ IntKind.i64.wrap ((j : Int) + z) = (j : Int) + z ∧ (r : Int) < 8 := by
  subst hz
  have h1 : ((j : Int) + k) % 8 = (r : Int) := by omega
  exact ⟨h1, by rw [Int.tmod_eq_emod_of_nonneg (by omega)]; exact h1, IntWalk.i64_in _ (by omega), by omega⟩
theorem sums (y0 y1 y2 y3 y4 y5 : Nat) (l0 : y0 ≤ 1) (l1 : y1 ≤ 1) (l2 : y2 ≤ 1) (l3 : y3 ≤ 1) (l4 : y4 ≤ 1) (l5 : y5 ≤ 1) :
    IntKind.i64.wrap ((y0 : Int) + y1) = (y0 : Int) + y1 ∧ IntKind.i64.wrap ((y0 : Int) + y1 + y2) = (y0 : Int) + y1 + y2 ∧ IntKind.i64.wrap ((y0 : Int) + y1 + y2 + y3) = (y0 : Int) + y1 + y2 + y3 ∧
      IntKind.i64.wrap ((y0 : Int) + y1 + y2 + y3 + y4) = (y0 : Int) + y1 + y2 + y3 + y4 ∧ IntKind.i64.wrap ((y0 : Int) + y1 + y2 + y3 + y4 + y5) = (y0 : Int) + y1 + y2 + y3 + y4 + y5 :=
  ⟨IntWalk.i64_in _ (by omega), IntWalk.i64_in _ (by omega), IntWalk.i64_in _ (by omega), IntWalk.i64_in _ (by omega), IntWalk.i64_in _ (by omega)⟩
theorem sumcast (y0 y1 y2 y3 y4 y5 : Nat) : (((y0 + y1 + y2 + y3 + y4 + y5) % 2 : Nat) : Int) = ((y0 : Int) + y1 + y2 + y3 + y4 + y5) % 2 := by omega
theorem possum (y0 y1 y2 y3 y4 y5 : Nat) : (0 : Int) ≤ (y0 : Int) + y1 + y2 + y3 + y4 + y5 := by omega
set_option maxRecDepth 100000 in
set_option maxHeartbeats 4000000 in
theorem refBox (a : Nat) (ha : a < 256) (w : World) : Calls Tryz.prog 70 #[.int .u8 a] w fun e w' => e = .returned (.int .u8 (box a : Nat)) ∧ Below w.heap.size w w' := by
  have hi := inv_lt ha
  have M1 := Lib.hid (refInverse a ha)
  have M2 := Lib.hid (digits (inv a) hi)
  have M3 := Lib.hid (digits 99 (by omega))
  have HX : Hid (bvr (bd (inv a)) 8 = box a) := bd_box ha
  generalize inv a = x at *
  go_enter Tryz.func70, Tryz.ntmps70
  go_wp2_with fail
  refine (M1.out _).mono ?_
  rintro e w' ⟨rfl, rfl⟩
  go_wp2_with fail
  refine (M2.out _).mono ?_
  rintro e w1 ⟨q1, c1, rfl, ho1, hb1⟩
  have HO1 := Lib.hid ho1
  have HB1 := Lib.hid hb1
  clear ho1 hb1
  go_wp2_with fail
  refine (M3.out _).mono ?_
  rintro e w2 ⟨q2, c2, rfl, ho2, hb2⟩
  have ho1' := HO1.out.below hb2
  have HB2 := Lib.hid (HB1.out.trans (hb2.mono HB1.out.size))
  obtain ⟨g1, k1, e1, _, _, _, hc1⟩ := ho1'.cells (by rw [rowOf_len]; omega)
  obtain ⟨g2, k2, e2, hg2, _, _, hc2⟩ := ho2.cells (by rw [rowOf_len]; omega)
  simp only [Value.slice.injEq] at e1 e2
  obtain ⟨rfl, h8a, rfl⟩ := e1
  obtain ⟨rfl, h8b, rfl⟩ := e2
  have hz1 : g1 < w2.heap.size := World.block_lt_of_cell? w2 _ (hc1 0 (by rw [rowOf_len]; omega))
  have hz2 : g2 < w2.heap.size := World.block_lt_of_cell? w2 _ (hc2 0 (by rw [rowOf_len]; omega))
  have HC1 : Hid (∀ i, i < 8 → w2.cell? ⟨g1, i, none⟩ = some (.int .i64 (dig x i : Nat))) := by
    intro i hi8
    rw [hc1 i (by rw [rowOf_len]; exact hi8), rowOf_nth _ 8 i hi8]
  have HC2 : Hid (∀ i, i < 8 → w2.cell? ⟨g2, i, none⟩ = some (.int .i64 (dig 99 i : Nat))) := by
    intro i hi8
    rw [hc2 i (by rw [rowOf_len]; exact hi8), rowOf_nth _ 8 i hi8]
  have HZ1 := Lib.hid hz1
  have HZ2 := Lib.hid hz2
  clear hc1 hc2 hz1 hz2 h8a h8b ho2 hb2 ho1' hg2
  go_wp2_with fail
  go_loopw [5, 6] (fun v vi wr => ∃ (j : Nat) (q : Option Addr) (cap : Nat), j ≤ 8 ∧ vi = .int .i64 j ∧ v = .slice q j cap ∧ OwnK .i64 3 wr w2.heap.size (.slice q j cap) (rowOf (bd x) j) ∧ Below w2.heap.size w2 wr) (fun _ vi _ => 8 - (intOf vi).toNat)
  case atStart => exact ⟨0, none, 0, by omega, rfl, rfl, ownk_nil _ _ _ _, Below.refl _ _⟩
  case round =>
    obtain ⟨j, q, cap, hj, rfl, rfl, ho, hb⟩ := hrel
    by_cases hlt : j < 8
    · have d0 := (hb.cell (p := ⟨g1, j, none⟩) HZ1.out).trans (HC1.out j hlt)
      have d1 := (hb.cell (p := ⟨g1, (j + 7) % 8, none⟩) HZ1.out).trans (HC1.out ((j + 7) % 8) (by omega))
      have d2 := (hb.cell (p := ⟨g1, (j + 6) % 8, none⟩) HZ1.out).trans (HC1.out ((j + 6) % 8) (by omega))
      have d3 := (hb.cell (p := ⟨g1, (j + 5) % 8, none⟩) HZ1.out).trans (HC1.out ((j + 5) % 8) (by omega))
      have d4 := (hb.cell (p := ⟨g1, (j + 4) % 8, none⟩) HZ1.out).trans (HC1.out ((j + 4) % 8) (by omega))
      have d5 := (hb.cell (p := ⟨g2, j, none⟩) HZ2.out).trans (HC2.out j hlt)
      have l0 := dig_le x j
      have l1 := dig_le x ((j + 7) % 8)
      have l2 := dig_le x ((j + 6) % 8)
      have l3 := dig_le x ((j + 5) % 8)
      have l4 := dig_le x ((j + 4) % 8)
      have l5 := dig_le 99 j
      have HD : Hid (bd x j = (dig x j + dig x ((j + 7) % 8) + dig x ((j + 6) % 8) + dig x ((j + 5) % 8) + dig x ((j + 4) % 8) + dig 99 j) % 2) := rfl
      generalize dig x j = y0 at *
      generalize dig x ((j + 7) % 8) = y1 at *
      generalize dig x ((j + 6) % 8) = y2 at *
      generalize dig x ((j + 5) % 8) = y3 at *
      generalize dig x ((j + 4) % 8) = y4 at *
      generalize dig 99 j = y5 at *
      obtain ⟨r1, hr1⟩ : ∃ r, r = (j + 7) % 8 := ⟨_, rfl⟩
      obtain ⟨r2, hr2⟩ : ∃ r, r = (j + 6) % 8 := ⟨_, rfl⟩
      obtain ⟨r3, hr3⟩ : ∃ r, r = (j + 5) % 8 := ⟨_, rfl⟩
      obtain ⟨r4, hr4⟩ : ∃ r, r = (j + 4) % 8 := ⟨_, rfl⟩
      rw [← hr1] at d1
      rw [← hr2] at d2
      rw [← hr3] at d3
      rw [← hr4] at d4
      obtain ⟨n1, m1, a1, i1⟩ := turnY j r1 7 7 rfl hlt (by decide) hr1
      obtain ⟨n2, m2, a2, i2⟩ := turnY j r2 6 6 rfl hlt (by decide) hr2
      obtain ⟨n3, m3, a3, i3⟩ := turnY j r3 5 5 rfl hlt (by decide) hr3
      obtain ⟨n4, m4, a4, i4⟩ := turnY j r4 4 4 rfl hlt (by decide) hr4
      have i0 : (j : Int) < 8 := Int.ofNat_lt.2 hlt
      obtain ⟨s1, s2, s3, s4, s5⟩ := sums y0 y1 y2 y3 y4 y5 l0 l1 l2 l3 l4 l5
      have HO := Lib.hid ho
      have HB := Lib.hid hb
      clear ho hb hr1 hr2 hr3 hr4
      go_wp2_with fail
      go_quiet (fail)
      generalize hW : wr.drewN nq = W
      have hoW : OwnK .i64 3 W w2.heap.size (.slice q j cap) (rowOf (bd x) j) := by rw [← hW]; exact HO.out
      have hbW : Below w2.heap.size w2 W := by rw [← hW]; exact HB.out.trans ⟨rfl, rfl, rfl, Nat.le_refl _, fun _ _ => rfl⟩
      obtain ⟨q3, c3, w3, hr, ho3, hb3, _⟩ := OwnK.push Tryz.underlying120 info3 (Nat.le_refl 8) hoW (by rw [rowOf_len]; omega) hbW.size ((bd x j : Nat) : Int)
      rw [← rowOf_succ, rowOf_len] at ho3
      have hbx : ((bd x j : Nat) : Int) = ((y0 : Int) + y1 + y2 + y3 + y4 + y5) % 2 := by rw [HD.out]; exact sumcast y0 y1 y2 y3 y4 y5
      rw [rowOf_len, hbx] at hr
      have p0 : (0 : Int) ≤ (y0 : Int) + y1 + y2 + y3 + y4 + y5 := possum y0 y1 y2 y3 y4 y5
      have HR := Lib.hid hr
      have HO3 := Lib.hid ho3
      have HB3 := Lib.hid (hbW.trans hb3)
      clear hW hoW hbW hr ho3 hb3 hbx d0 d1 d2 d3 d4 d5 HO HB n1 n2 n3 n4 m1 m2 m3 m4 a1 a2 a3 a4 s1 s2 s3 s4 s5
      go_wp2_with (at_builtin; refine wpList_appK 120 rfl _ _ rfl rfl rfl rfl HR.out ?_)
      go_roundw
      case rel => exact ⟨j + 1, q3, c3, by omega, by go_num, rfl, HO3.out, HB3.out⟩
      case measure => simp [intOf]; omega
    · obtain rfl : j = 8 := by omega
      have BO := Lib.hid (byteOf (bd x) (bd_le x) q cap w2.heap.size wr ho)
      have HBF := Lib.hid (HB2.out.trans (hb.mono HB2.out.size))
      clear ho hb
      go_wp2_with fail
      refine BO.out.mono ?_
      rintro e w' ⟨rfl, rfl⟩
      go_wp2_with fail
      go_ret
      exact ⟨ret_u8 (by rw [HX.out]), HBF.out⟩
end Go.Proofs.YtpkeofioobmmoaaGreatDoor.ae
