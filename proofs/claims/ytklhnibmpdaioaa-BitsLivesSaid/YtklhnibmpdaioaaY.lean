/-
  Contracts of the document's row: Free, Taken. Condition: the row lies in memory as a slice of ints.
-/
import Derived.Test.YtklhnibmpdaioaaX
namespace Go.Proofs.Ytklhnibmpdaioaa
open Go.RowKit
section
variable {w : World} {g N lb : Nat} {f : Nat → Nat}
set_option maxRecDepth 100000 in
set_option maxHeartbeats 1000000 in
theorem freeX_at (h : XR w g N lb f) (i0 : Int) (s : Nat) (hs : (i0 < 0 ∧ s = 0) ∨ i0 = s) (hs63 : (s : Int) ≤ 9223372036854775807) :
    Calls Try.prog 38 #[.pointer (some ⟨g, 0, none⟩), .int .i64 i0] w (FreeP N f s w) := by
  have n2 := h.n2
  have H := Lib.hid h
  have c0 := h.c0
  clear h
  rcases hs with ⟨h1, h2⟩ | rfl
  case' inl => have HS := Lib.hid h2; clear h2
  all_goals
    go_enter Try.func38, Try.ntmps38
    go_wp2_with fail
    go_loopg [6] (N - s) (fun r vi wr => ∃ i : Nat, r = N - i ∧ s ≤ i ∧ vi = .int .i64 i ∧ (i : Int) ≤ 9223372036854775807 ∧ w = wr ∧ ∀ j : Nat, s ≤ j → j < i → j < N → f j ≠ 0)
    case atStart => first
      | exact ⟨s, rfl, Nat.le_refl _, rfl, hs63, rfl, fun j h1 h2 => by omega⟩
      | exact ⟨0, (by rw [HS.out]), (by rw [HS.out]; exact Nat.le_refl _), rfl, (by omega), rfl, fun j h1 h2 => by omega⟩
    case round =>
      obtain ⟨i, hr, hsi, rfl, hi63, rfl, hno⟩ := hrel
      have HNO := Lib.hid hno
      have HR := Lib.hid hr
      clear hno hr
      by_cases hlt : i < N
      · have hc := H.out.at i hlt
        have h2' : (i : Int) < (N : Int) := by omega
        by_cases hf : f i = 0
        · rw [hf] at hc
          have HF := Lib.hid hf
          clear hf
          go_wp2_with fail
          go_ret2
          exact ⟨i, true, rfl, .inl ⟨rfl, i, rfl, by omega, hlt, HF.out, fun j h1 h2 => HNO.out j (by omega) h2 (by omega)⟩, rfl⟩
        · have hne : ((f i : Int) == 0) = false := by simp; omega
          have HF := Lib.hid hf
          clear hf
          go_wp2_with fail
          go_roundg (N - (i + 1))
          case measure => have := HR.out; omega
          case rel => exact ⟨i + 1, rfl, by omega, by go_num, by omega, rfl, fun j h1 h2 h3 => by
            by_cases hj : j < i
            · exact HNO.out j h1 hj h3
            · obtain rfl : j = i := by omega
              exact HF.out⟩
      · have h2' : ¬ (i : Int) < (N : Int) := by omega
        go_wp2_with fail
        go_ret2
        exact ⟨0, false, rfl, .inr ⟨rfl, rfl, fun j h1 h2 => HNO.out j (by omega) (by omega) h2⟩, rfl⟩
theorem freeX (h : XR w g N lb f) (i : Int) (hi : i ≤ 9223372036854775807) :
    Calls Try.prog 38 #[.pointer (some ⟨g, 0, none⟩), .int .i64 i] w (FreeP N f i w) :=
  (freeX_at h i i.toNat (by omega) (by omega)).mono fun e w' ⟨p, b, he, hf, hw⟩ => ⟨p, b, he, hf.max (by omega), hw⟩
set_option maxRecDepth 100000 in
set_option maxHeartbeats 1000000 in
theorem takenX (h : XR w g N lb f) : Calls Try.prog 46 #[.pointer (some ⟨g, 0, none⟩)] w fun e w' => e = .returned (.int .i64 (cnt f N)) ∧ w = w' := by
  have n2 := h.n2
  have H := Lib.hid h
  have c0 := h.c0
  clear h
  go_enter Try.func46, Try.ntmps46
  go_wp2_with fail
  go_loopg [3, 4] N (fun r vn vi wr => ∃ i : Nat, r + i = N ∧ vn = .int .i64 (cnt f i) ∧ vi = .int .i64 i ∧ w = wr)
  case atStart => exact ⟨0, rfl, rfl, rfl, rfl⟩
  case round =>
    obtain ⟨i, hr, rfl, rfl, rfl⟩ := hrel
    have HR := Lib.hid hr
    have hci := cnt_le f i
    by_cases hi : i < N
    · have hc := H.out.at i hi
      have h2' : (i : Int) < (N : Int) := by omega
      clear hr
      by_cases hf : f i = 0
      · rw [hf] at hc
        have HC : Hid (cnt f (i + 1) = cnt f i) := by show cnt f i + _ = _; rw [if_pos hf]; rfl
        clear hf
        go_wp2_with fail
        go_roundg (N - (i + 1))
        case measure => have := HR.out; omega
        case rel => exact ⟨i + 1, by omega, by rw [HC.out], by go_num, rfl⟩
      · have HC : Hid (cnt f (i + 1) = cnt f i + 1) := by show cnt f i + _ = _; rw [if_neg hf]
        have hf2 : 0 < (f i : Int) := by omega
        clear hf
        go_wp2_with fail
        go_roundg (N - (i + 1))
        case measure => have := HR.out; omega
        case rel => exact ⟨i + 1, by omega, by rw [HC.out]; go_num, by go_num, rfl⟩
    · have HI : Hid (i = N) := by show _ = _; omega
      have h2' : ¬ (i : Int) < (N : Int) := by omega
      clear hr
      go_wp2_with fail
      go_ret
      exact ⟨by show Ending.returned (.int .i64 (cnt f i : Nat)) = _; rw [HI.out], rfl⟩
end
end Go.Proofs.Ytklhnibmpdaioaa
