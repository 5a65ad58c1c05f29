/-
  Contract of octet's Pad. Condition: the slice reads as bytes.
-/
import Derived.Test.YtnifaldgofmciaaOcI
namespace Go.Proofs.Ytnifaldgofmciaa.oc
open Go.RowKit
theorem pad (v : Value) (xs : List Int) (n : Int) (hn : -9223372036854775808 ≤ n ∧ n ≤ 9223372036854775807) (w : World) (h : Sees w v xs) : Calls Try.prog 28 #[v, .int .i64 n] w (PadP w xs n) := by
  obtain ⟨x, cap, rfl, h63⟩ := h.form
  by_cases h1 : n < 0 ∨ 65536 < n
  · have e1 : padE xs.length n = 1 := by unfold padE; exact if_pos h1
    have e2 : padV xs n = [] := by unfold padV; rw [e1]; rfl
    have E := Lib.hid e1
    have E2 := Lib.hid e2
    clear e1 e2
    rcases h1 with h1 | h1
    · go_enter Try.func28, Try.ntmps28
      go_wp2
      go_ret2
      exact PadP.mk E.out (by rw [E2.out]; exact sees_nil _) (Below.refl _ _)
    · go_enter Try.func28, Try.ntmps28
      go_wp2
      go_ret2
      exact PadP.mk E.out (by rw [E2.out]; exact sees_nil _) (Below.refl _ _)
  · by_cases h2 : n < xs.length
    · have e1 : padE xs.length n = 2 := by unfold padE; rw [if_neg h1]; exact if_pos h2
      have e2 : padV xs n = [] := by unfold padV; rw [e1]; rfl
      have E := Lib.hid e1
      have E2 := Lib.hid e2
      have h3 : 0 ≤ n := by omega
      have h4 : n ≤ 65536 := by omega
      clear e1 e2 h1
      go_enter Try.func28, Try.ntmps28
      go_wp2
      go_ret2
      exact PadP.mk E.out (by rw [E2.out]; exact sees_nil _) (Below.refl _ _)
    · have e1 : padE xs.length n = 0 := by unfold padE; rw [if_neg h1]; exact if_neg h2
      have e2 : padV xs n = xs ++ List.replicate (n.toNat - xs.length) 0 := by unfold padV; exact if_pos e1
      obtain ⟨q, rfl⟩ := Int.eq_ofNat_of_zero_le (show 0 ≤ n by omega)
      have E := Lib.hid e1
      have E2 := Lib.hid e2
      have H := Lib.hid h
      have h4 : (q : Int) ≤ 65536 := by omega
      have h5 : (xs.length : Int) ≤ q := by omega
      clear e1 e2 h1 h h2
      go_enter Try.func28, Try.ntmps28
      go_wp2_with (go_at_call 48; refine (filled _ xs q (by omega) (by omega) _ H.out).mono ?_; rintro e w' ⟨rfl, hw⟩; have HW := Lib.hid hw; clear hw)
      go_ret2
      refine PadP.mk E.out ?_ ?_
      · rw [E2.out, ← HW.out]
        have := sees_alloc w (xs ++ List.replicate (q - xs.length) 0) (H.out.1.append (byt_zero _)) q q (by simp; omega) (Nat.le_refl _) (by unfold maxLen; omega) []
        simpa using this
      · rw [← HW.out]
        exact (Below.refl _ _).alloc (Nat.le_refl _) _
end Go.Proofs.Ytnifaldgofmciaa.oc
