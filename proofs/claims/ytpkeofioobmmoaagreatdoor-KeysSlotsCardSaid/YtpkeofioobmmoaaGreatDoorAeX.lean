/-
  Contracts of the functions that the statements of package gf go through: a byte's digits, the byte of digits, the document's box. Condition: the numbers are bytes.
-/
import Derived.Test.YtpkeofioobmmoaaGreatDoorAeK
import Derived.Test.YtpkeofioobmmoaaGreatDoorAeO
import Derived.Deep.QuietTactic
import Derived.BigQuiet
import Derived.IntWalk
namespace Go.Proofs.YtpkeofioobmmoaaGreatDoor.ae
open Go.RowKit
theorem info3 : (Tryz.prog.info? 3).map (fun i => (i.zero, i.size, i.bytes)) = some (some (.int .i64 0), 1, 8) := by kernel_rfl
/-- So many of numbers. -/
def rowOf (f : Nat → Nat) (j : Nat) : List Int := (List.range j).map fun i => ((f i : Nat) : Int)
theorem rowOf_len (f : Nat → Nat) (j : Nat) : (rowOf f j).length = j := by simp [rowOf]
theorem rowOf_succ (f : Nat → Nat) (j : Nat) : rowOf f (j + 1) = rowOf f j ++ [((f j : Nat) : Int)] := by simp [rowOf, List.range_succ]
theorem rowOf_nth (f : Nat → Nat) (j i : Nat) (h : i < j) : nth (rowOf f j) i = (f i : Nat) := by simp [rowOf, nth, List.getD, h]
/-- A digit. -/
def dig (a i : Nat) : Nat := a / 2 ^ i % 2
theorem dig_le (a i : Nat) : dig a i ≤ 1 := by unfold dig; omega
/-- New numbers that a call hands out. -/
def RowP (w : World) (f : Nat → Nat) (n : Nat) (e : Ending) (w' : World) : Prop :=
  ∃ q cap, e = .returned (.slice q n cap) ∧ OwnK .i64 3 w' w.heap.size (.slice q n cap) (rowOf f n) ∧ Below w.heap.size w w'
set_option maxRecDepth 100000 in
set_option maxHeartbeats 2000000 in
theorem digits (a : Nat) (ha : a < 256) (w : World) : Calls Tryz.prog 88 #[.int .u8 a] w (RowP w (dig a) 8) := by
  go_enter Tryz.func88, Tryz.ntmps88
  go_wp2
  go_loopw [0, 3, 4] (fun va v vi wr => ∃ (j : Nat) (q : Option Addr) (cap : Nat), j ≤ 8 ∧ vi = .int .i64 j ∧ va = .int .u8 (a / 2 ^ j : Nat) ∧ v = .slice q j cap ∧ OwnK .i64 3 wr w.heap.size (.slice q j cap) (rowOf (dig a) j) ∧ Below w.heap.size w wr) (fun _ _ vi _ => 8 - (intOf vi).toNat)
  case atStart => exact ⟨0, none, 0, by omega, rfl, by simp, rfl, ownk_nil _ _ _ _, Below.refl _ _⟩
  case round =>
    obtain ⟨j, q, cap, hj, rfl, rfl, rfl, ho, hb⟩ := hrel
    by_cases hlt : j < 8
    · have hd : a / 2 ^ j < 256 := Nat.lt_of_le_of_lt (Nat.div_le_self _ _) ha
      have hx : ((dig a j : Nat) : Int) = ((a / 2 ^ j : Nat) : Int) % 2 := by unfold dig; omega
      have hn : a / 2 ^ (j + 1) = a / 2 ^ j / 2 := by rw [Nat.div_div_eq_div_mul, Nat.pow_succ]
      obtain ⟨q1, c1, w1, hr, ho1, hb1, _⟩ := OwnK.push Tryz.underlying120 info3 (Nat.le_refl 8) ho (by rw [rowOf_len]; omega) hb.size ((dig a j : Nat) : Int)
      rw [← rowOf_succ, rowOf_len] at ho1
      rw [rowOf_len, hx] at hr
      have HR := Lib.hid hr
      have HO := Lib.hid ho1
      have HB := Lib.hid (hb.trans hb1)
      have HN := Lib.hid hn
      clear hr ho1 hb1 ho hb hx hn
      generalize a / 2 ^ j = d at *
      go_wp2_with (at_builtin; refine wpList_appK 120 rfl _ _ rfl rfl rfl rfl HR.out ?_)
      go_roundw
      case rel => exact ⟨j + 1, q1, c1, by omega, by go_num, by rw [HN.out]; simp, rfl, HO.out, HB.out⟩
      case measure => simp [intOf]; omega
    · obtain rfl : j = 8 := by omega
      have HO := Lib.hid ho
      have HB := Lib.hid hb
      clear ho hb
      go_wp2
      go_ret
      exact ⟨q, cap, rfl, HO.out, HB.out⟩
/-- The byte of so many digits from the top. -/
def bvr (d : Nat → Nat) : Nat → Nat
  | 0 => 0
  | m + 1 => 2 * bvr d m + d (7 - m)
theorem bvr_lt (d : Nat → Nat) (hd : ∀ i, d i ≤ 1) : ∀ m, bvr d m < 2 ^ m
  | 0 => by show 0 < 1; omega
  | m + 1 => by
    have h1 := bvr_lt d hd m
    have h2 := hd (7 - m)
    rw [bvr, Nat.pow_succ]; omega
set_option maxRecDepth 100000 in
set_option maxHeartbeats 2000000 in
theorem byteOf (d : Nat → Nat) (hd : ∀ i, d i ≤ 1) (q : Option Addr) (cap : Nat) (base : Nat) (w : World) (ho : OwnK .i64 3 w base (.slice q 8 cap) (rowOf d 8)) :
    Calls Tryz.prog 90 #[.slice q 8 cap] w fun e w' => e = .returned (.int .u8 (bvr d 8 : Nat)) ∧ w = w' := by
  obtain ⟨g, cap', hv, _, _, hm, hc⟩ := ho.cells (by rw [rowOf_len]; omega)
  simp only [Value.slice.injEq] at hv
  obtain ⟨rfl, hlen8, rfl⟩ := hv
  have HC := Lib.hid hc
  have HD := Lib.hid hd
  clear hc ho hd hm hlen8
  go_enter Tryz.func90, Tryz.ntmps90
  go_wp2
  go_loop [3, 4] (fun vn vi => ∃ m : Nat, m ≤ 8 ∧ vi = .int .i64 (7 - (m : Int)) ∧ vn = .int .u8 (bvr d m : Nat)) (fun _ vi => (intOf vi + 1).toNat)
  case atStart => exact ⟨0, by omega, rfl, rfl⟩
  case round =>
    obtain ⟨m, hm8, rfl, rfl⟩ := hrel
    have hb := bvr_lt d HD.out m
    by_cases hlt : m < 8
    · obtain ⟨k, hk⟩ : ∃ k, k = 7 - m := ⟨_, rfl⟩
      have hki : 7 - (m : Int) = (k : Int) := by omega
      have hk8 : (k : Int) < 8 := by omega
      have c0 := HC.out k (by rw [rowOf_len]; omega)
      rw [rowOf_nth d 8 k (by omega)] at c0
      have hdk := HD.out k
      have hx1 : (bvr d m : Int) ≤ 127 := by
        have : 2 ^ m ≤ 2 ^ 7 := Nat.pow_le_pow_right (by omega) (by omega)
        omega
      have HV : Hid (bvr d (m + 1) = 2 * bvr d m + d k) := by show _ = _; rw [bvr, hk]
      have HK := Lib.hid hk
      rw [hki]
      have HKI := Lib.hid hki
      clear hb hk hki
      generalize bvr d m = x at *
      generalize d k = y at *
      have hy0 : (0 : Int) ≤ y := by omega
      have hy1 : (y : Int) ≤ 1 := by omega
      go_wp2
      go_round
      case rel => exact ⟨m + 1, by omega, by have := HKI.out; congr 1; omega, by rw [HV.out]; congr 1⟩
      case measure => simp [intOf]
    · obtain rfl : m = 8 := by omega
      rw [show (7 : Int) - ((8 : Nat) : Int) = -1 from rfl]
      have HB := Lib.hid hb
      generalize hv : bvr d 8 = x at *
      have HVV := Lib.hid hv
      clear hb hv
      go_wp2
      go_ret
      exact ⟨by rw [HVV.out]; rfl, rfl⟩
/-- A place of the box's digits: the sum of five of the inverse's and one of 99's. -/
def bd (x i : Nat) : Nat := (dig x i + dig x ((i + 7) % 8) + dig x ((i + 6) % 8) + dig x ((i + 5) % 8) + dig x ((i + 4) % 8) + dig 99 i) % 2
theorem bd_le (x i : Nat) : bd x i ≤ 1 := by unfold bd; omega
theorem bd_all : alln (fun x => Nat.beq (bvr (bd x) 8) (mix x)) 256 = true := by decide +kernel
theorem bd_box {a : Nat} (ha : a < 256) : bvr (bd (inv a)) 8 = box a := Nat.eq_of_beq_eq_true (alln_of bd_all (inv a) (inv_lt ha))
end Go.Proofs.YtpkeofioobmmoaaGreatDoor.ae
