/-
  Contract of the document's disk: the digit of a keep. Condition: the bytes lie in memory.
-/
import Derived.Test.YtklhnibmpdaioaaXF
import Derived.Test.YtklhnibmpdaioaaDJ
namespace Go.Proofs.Ytklhnibmpdaioaa
open Go.RowKit
theorem and1 : ∀ n : Fin 256, (bits .and .u8 (n.val : Int) 1 == 1) = decide (n.val % 2 = 1) := by decide +kernel
theorem kbit_in {f : Nat → Int} {n i z : Nat} (hi : i / 8 < n) (hz : f (i / 8) = z) (hz2 : z < 256) : kbit f n i = decide (z / 2 ^ (i % 8) % 2 = 1) := by
  unfold kbit
  rw [decide_eq_true hi, Bool.true_and, hz]
  have e : ((z : Int) / 2 ^ (i % 8)) = ((z / 2 ^ (i % 8) : Nat) : Int) := by simp
  have hl : z / 2 ^ (i % 8) < 256 := Nat.lt_of_le_of_lt (Nat.div_le_self _ _) hz2
  rw [e]
  exact and1 ⟨z / 2 ^ (i % 8), hl⟩
theorem kbit_out {f : Nat → Int} {n i : Nat} (hi : ¬ i / 8 < n) : kbit f n i = false := by
  unfold kbit
  rw [decide_eq_false hi, Bool.false_and]
set_option maxRecDepth 100000 in
theorem digitX (i : Nat) (hi : i ≤ 1000000) (x : Option Addr) (n c : Nat) (f : Nat → Int) (w : World) (hn : n ≤ 9223372036854775807)
    (hx : ∀ j, j < n → 0 ≤ f j ∧ f j ≤ 255 ∧ ∃ b o, x = some ⟨b, o, none⟩ ∧ w.cell? ⟨b, o + j, none⟩ = some (.int .u8 (f j))) :
    Calls Try.prog 76 #[.slice x n c, .int .i64 i] w fun e w' => e = .returned (.bool (kbit f n i)) ∧ w = w' := by
  by_cases h : i / 8 < n
  · obtain ⟨h0, h1, b, o, rfl, hc⟩ := hx (i / 8) h
    obtain ⟨z, hz⟩ : ∃ z : Nat, f (i / 8) = z := ⟨(f (i / 8)).toNat, by omega⟩
    have hzl : z < 256 := by omega
    rw [kbit_in h hz hzl]
    rw [hz] at hc
    have hd : ((i : Int) / 8 < (n : Int)) := by omega
    obtain ⟨m, hm⟩ : ∃ m, m = i % 8 := ⟨_, rfl⟩
    rw [← hm]
    have hm1 : ((i : Int) % 8) = m := by omega
    have hm2 : m < 8 := by omega
    have HM := Lib.hid hm2
    have HZ := Lib.hid hzl
    clear hx h hz h0 h1 hm hzl hm2
    go_enter Try.func76, Try.ntmps76
    go_wp2_with fail
    go_loopg [5, 6] m (fun r v5 v6 wr => ∃ j : Nat, r + j = m ∧ v5 = .int .u8 ((z / 2 ^ j : Nat) : Int) ∧ v6 = .int .i64 j ∧ w = wr)
    case atStart => exact ⟨0, by omega, by simp, rfl, rfl⟩
    case round =>
      obtain ⟨j, hr, rfl, rfl, rfl⟩ := hrel
      have HR := Lib.hid hr
      have HU : Hid (z / 2 ^ j < 256) := Nat.lt_of_le_of_lt (Nat.div_le_self _ _) HZ.out
      have HV : Hid (z / 2 ^ (j + 1) = z / 2 ^ j / 2) := by show _ = _; rw [Nat.pow_succ, Nat.div_div_eq_div_mul]
      by_cases hj : j < m
      · have hj2 : (j : Int) < m := by omega
        generalize z / 2 ^ j = u at *
        have hu := HU.out
        clear hr
        go_wp2_with fail
        go_roundg (m - (j + 1))
        case measure => have := HR.out; omega
        case rel => exact ⟨j + 1, by have := HR.out; omega, by rw [HV.out]; go_num, by go_num, rfl⟩
      · have hz : j = m := by omega
        subst hz
        generalize hg : z / 2 ^ j = u at *
        have HG := Lib.hid hg
        clear hg
        have hu := HU.out
        clear hr HR hj HV
        go_wp2_with fail
        go_ret
        refine ⟨?_, rfl⟩
        have e : ((u : Int) % 2 == 1) = decide (u % 2 = 1) := by
          by_cases h2 : u % 2 = 1
          · rw [decide_eq_true h2]; simp; omega
          · rw [decide_eq_false h2]; simp; omega
        rw [HG.out, ← e]
        rfl
  · rw [kbit_out h]
    have hd : ¬ ((i : Int) / 8 < (n : Int)) := by omega
    clear hx h
    go_enter Try.func76, Try.ntmps76
    go_wp2_with fail
    go_ret
    exact ⟨rfl, rfl⟩
end Go.Proofs.Ytklhnibmpdaioaa
