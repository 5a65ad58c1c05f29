/-
  Contracts of the functions that the statements of package octet go through: the number that stands at a place. Condition: the slice reads as bytes.
-/
import Derived.Test.YtabopcfhonkecaaA
import Derived.Test.YtabopcfhonkecaaS
namespace Go.Proofs.Ytabopcfhonkecaa
open Go.RowKit

/-- What Get tells: the error, the number. -/
def getE (l : Nat) (p : Int) (n : Nat) : Int := if p < 0 then 1 else if (l : Int) - p < n then 10 else 0
def getV (xs : List Int) (p : Int) (n : Nat) : Int := if p < 0 then 0 else if (xs.length : Int) - p < n then 0 else numI ((xs.drop p.toNat).take n)

set_option maxHeartbeats 2000000 in
theorem get16_plain (b o cap p : Nat) (xs : List Int) (hb : Byt xs) (hm : xs.length ≤ 9223372036854775807) (hp : p + 2 ≤ xs.length) (w : World)
    (hc : ∀ i, i < xs.length → w.cell? ⟨b, o + i, none⟩ = some (.int .u8 (nth xs i))) :
    Calls Try.prog 40 #[.slice (some ⟨b, o, none⟩) xs.length cap, .int .i64 p] w fun e w' => e = .returned (.tuple #[.int .u16 (numI ((xs.drop p).take 2)), .int .i64 0]) ∧ w = w' := by
  go_enter Try.func40, Try.ntmps40
  go_wp2_with (go_at_call 33; refine (width16 _).mono ?_; rintro e w' ⟨rfl, rfl⟩)
  go_loop [7, 19] (fun v i => ∃ k : Nat, k ≤ 2 ∧ i = .int .i64 k ∧ v = .int .u64 (numI ((xs.drop p).take k))) (fun _ i => 2 - (intOf i).toNat)
  case atStart => exact ⟨0, by omega, rfl, by simp [numI]⟩
  case round =>
    obtain ⟨k, hk, rfl, rfl⟩ := hrel
    by_cases hlt : k < 2
    · have hcell := hc (p + k) (by omega)
      have hbd := numI_part xs p k hb (by omega)
      have hpw := pow7 k (by omega)
      have hg := hb.nth (p + k)
      have h0 : 0 ≤ numI ((xs.drop p).take k) := hbd.1
      have h1 : numI ((xs.drop p).take k) ≤ 72057594037927935 := by omega
      have h2 : 0 ≤ nth xs (p + k) := hg.1
      have h3 : nth xs (p + k) ≤ 255 := hg.2
      have ST := Lib.hid (numI_step xs p k (by omega))
      have OR := Lib.hid (or8 (numI ((xs.drop p).take k)) (nth xs (p + k)) h0 (by omega) h2 h3)
      clear hbd hpw hg hc
      go_wp2
      go_round
      case rel => exact ⟨k + 1, by omega, by go_num, by rw [ST.out, OR.out]⟩
      case measure => simp [intOf]; omega
    · obtain rfl : k = 2 := by omega
      have hbd := numI_part xs p 2 hb (by omega)
      have h0 : 0 ≤ numI ((xs.drop p).take 2) := hbd.1
      have h1 : numI ((xs.drop p).take 2) ≤ 65535 := by have := hbd.2; omega
      clear hbd hc
      go_wp2
      go_ret2
      exact ⟨rfl, rfl⟩
set_option maxHeartbeats 2000000 in
theorem get32_plain (b o cap p : Nat) (xs : List Int) (hb : Byt xs) (hm : xs.length ≤ 9223372036854775807) (hp : p + 4 ≤ xs.length) (w : World)
    (hc : ∀ i, i < xs.length → w.cell? ⟨b, o + i, none⟩ = some (.int .u8 (nth xs i))) :
    Calls Try.prog 42 #[.slice (some ⟨b, o, none⟩) xs.length cap, .int .i64 p] w fun e w' => e = .returned (.tuple #[.int .u32 (numI ((xs.drop p).take 4)), .int .i64 0]) ∧ w = w' := by
  go_enter Try.func42, Try.ntmps42
  go_wp2_with (go_at_call 34; refine (width32 _).mono ?_; rintro e w' ⟨rfl, rfl⟩)
  go_loop [7, 19] (fun v i => ∃ k : Nat, k ≤ 4 ∧ i = .int .i64 k ∧ v = .int .u64 (numI ((xs.drop p).take k))) (fun _ i => 4 - (intOf i).toNat)
  case atStart => exact ⟨0, by omega, rfl, by simp [numI]⟩
  case round =>
    obtain ⟨k, hk, rfl, rfl⟩ := hrel
    by_cases hlt : k < 4
    · have hcell := hc (p + k) (by omega)
      have hbd := numI_part xs p k hb (by omega)
      have hpw := pow7 k (by omega)
      have hg := hb.nth (p + k)
      have h0 : 0 ≤ numI ((xs.drop p).take k) := hbd.1
      have h1 : numI ((xs.drop p).take k) ≤ 72057594037927935 := by omega
      have h2 : 0 ≤ nth xs (p + k) := hg.1
      have h3 : nth xs (p + k) ≤ 255 := hg.2
      have ST := Lib.hid (numI_step xs p k (by omega))
      have OR := Lib.hid (or8 (numI ((xs.drop p).take k)) (nth xs (p + k)) h0 (by omega) h2 h3)
      clear hbd hpw hg hc
      go_wp2
      go_round
      case rel => exact ⟨k + 1, by omega, by go_num, by rw [ST.out, OR.out]⟩
      case measure => simp [intOf]; omega
    · obtain rfl : k = 4 := by omega
      have hbd := numI_part xs p 4 hb (by omega)
      have h0 : 0 ≤ numI ((xs.drop p).take 4) := hbd.1
      have h1 : numI ((xs.drop p).take 4) ≤ 4294967295 := by have := hbd.2; omega
      clear hbd hc
      go_wp2
      go_ret2
      exact ⟨rfl, rfl⟩
theorem get16_neg (x : Option Addr) (l cap : Nat) (p : Int) (hp : p < 0) (w : World) :
    Calls Try.prog 40 #[.slice x l cap, .int .i64 p] w fun e w' => e = .returned (.tuple #[.int .u16 0, .int .i64 1]) ∧ w = w' := by
  go_enter Try.func40, Try.ntmps40
  go_wp2_with (go_at_call 33; refine (width16 _).mono ?_; rintro e w' ⟨rfl, rfl⟩)
  go_ret2
  exact ⟨rfl, rfl⟩
theorem get16_short (x : Option Addr) (l cap : Nat) (p : Int) (h0 : 0 ≤ p) (h63 : p ≤ 9223372036854775807) (hl : l ≤ 9223372036854775807) (hp : (l : Int) - p < 2) (w : World) :
    Calls Try.prog 40 #[.slice x l cap, .int .i64 p] w fun e w' => e = .returned (.tuple #[.int .u16 0, .int .i64 10]) ∧ w = w' := by
  go_enter Try.func40, Try.ntmps40
  go_wp2_with (go_at_call 33; refine (width16 _).mono ?_; rintro e w' ⟨rfl, rfl⟩)
  go_ret2
  exact ⟨rfl, rfl⟩
/-- Get at 16 digits. -/
theorem get16 (v : Value) (xs : List Int) (p : Int) (hp : -9223372036854775808 ≤ p ∧ p ≤ 9223372036854775807) (w : World) (hs : Sees w v xs) :
    Calls Try.prog 40 #[v, .int .i64 p] w fun e w' => e = .returned (.tuple #[.int .u16 (getV xs p 2), .int .i64 (getE xs.length p 2)]) ∧ w = w' := by
  by_cases h0 : p < 0
  · have e1 : getV xs p 2 = 0 := by unfold getV; rw [if_pos h0]
    have e2 : getE xs.length p 2 = 1 := by unfold getE; rw [if_pos h0]
    rw [e1, e2]
    obtain ⟨_, ⟨rfl, rfl⟩ | ⟨a, cap, rfl, rfl, _⟩ | ⟨b, o, cap, rfl, _⟩⟩ := hs <;> exact get16_neg _ _ _ _ h0 _
  by_cases h1 : (xs.length : Int) - p < 2
  · have e1 : getV xs p 2 = 0 := by unfold getV; rw [if_neg h0]; exact if_pos h1
    have e2 : getE xs.length p 2 = 10 := by unfold getE; rw [if_neg h0]; exact if_pos h1
    rw [e1, e2]
    obtain ⟨_, ⟨rfl, rfl⟩ | ⟨a, cap, rfl, rfl, _⟩ | ⟨b, o, cap, rfl, _, hl, hm, _⟩⟩ := hs
    · exact get16_short _ _ _ _ (by omega) (by omega) (by omega) (by simpa using h1) _
    · exact get16_short _ _ _ _ (by omega) (by omega) (by omega) (by simpa using h1) _
    · unfold maxLen at hm
      exact get16_short _ _ _ _ (by omega) (by omega) (by omega) h1 _
  · have e1 : getV xs p 2 = numI ((xs.drop p.toNat).take 2) := by unfold getV; rw [if_neg h0]; exact if_neg h1
    have e2 : getE xs.length p 2 = 0 := by unfold getE; rw [if_neg h0]; exact if_neg h1
    rw [e1, e2]
    obtain ⟨hb, ⟨rfl, rfl⟩ | ⟨a, cap, rfl, rfl, _⟩ | ⟨b, o, cap, rfl, _, hl, hm, hc⟩⟩ := hs
    · simp at h1; omega
    · simp at h1; omega
    · unfold maxLen at hm
      obtain ⟨q, rfl⟩ := Int.eq_ofNat_of_zero_le (show 0 ≤ p by omega)
      simp only [Int.toNat_natCast]
      exact get16_plain b o cap q xs hb (by omega) (by omega) w hc
theorem get32_neg (x : Option Addr) (l cap : Nat) (p : Int) (hp : p < 0) (w : World) :
    Calls Try.prog 42 #[.slice x l cap, .int .i64 p] w fun e w' => e = .returned (.tuple #[.int .u32 0, .int .i64 1]) ∧ w = w' := by
  go_enter Try.func42, Try.ntmps42
  go_wp2_with (go_at_call 34; refine (width32 _).mono ?_; rintro e w' ⟨rfl, rfl⟩)
  go_ret2
  exact ⟨rfl, rfl⟩
theorem get32_short (x : Option Addr) (l cap : Nat) (p : Int) (h0 : 0 ≤ p) (h63 : p ≤ 9223372036854775807) (hl : l ≤ 9223372036854775807) (hp : (l : Int) - p < 4) (w : World) :
    Calls Try.prog 42 #[.slice x l cap, .int .i64 p] w fun e w' => e = .returned (.tuple #[.int .u32 0, .int .i64 10]) ∧ w = w' := by
  go_enter Try.func42, Try.ntmps42
  go_wp2_with (go_at_call 34; refine (width32 _).mono ?_; rintro e w' ⟨rfl, rfl⟩)
  go_ret2
  exact ⟨rfl, rfl⟩
/-- Get at 32 digits. -/
theorem get32 (v : Value) (xs : List Int) (p : Int) (hp : -9223372036854775808 ≤ p ∧ p ≤ 9223372036854775807) (w : World) (hs : Sees w v xs) :
    Calls Try.prog 42 #[v, .int .i64 p] w fun e w' => e = .returned (.tuple #[.int .u32 (getV xs p 4), .int .i64 (getE xs.length p 4)]) ∧ w = w' := by
  by_cases h0 : p < 0
  · have e1 : getV xs p 4 = 0 := by unfold getV; rw [if_pos h0]
    have e2 : getE xs.length p 4 = 1 := by unfold getE; rw [if_pos h0]
    rw [e1, e2]
    obtain ⟨_, ⟨rfl, rfl⟩ | ⟨a, cap, rfl, rfl, _⟩ | ⟨b, o, cap, rfl, _⟩⟩ := hs <;> exact get32_neg _ _ _ _ h0 _
  by_cases h1 : (xs.length : Int) - p < 4
  · have e1 : getV xs p 4 = 0 := by unfold getV; rw [if_neg h0]; exact if_pos h1
    have e2 : getE xs.length p 4 = 10 := by unfold getE; rw [if_neg h0]; exact if_pos h1
    rw [e1, e2]
    obtain ⟨_, ⟨rfl, rfl⟩ | ⟨a, cap, rfl, rfl, _⟩ | ⟨b, o, cap, rfl, _, hl, hm, _⟩⟩ := hs
    · exact get32_short _ _ _ _ (by omega) (by omega) (by omega) (by simpa using h1) _
    · exact get32_short _ _ _ _ (by omega) (by omega) (by omega) (by simpa using h1) _
    · unfold maxLen at hm
      exact get32_short _ _ _ _ (by omega) (by omega) (by omega) h1 _
  · have e1 : getV xs p 4 = numI ((xs.drop p.toNat).take 4) := by unfold getV; rw [if_neg h0]; exact if_neg h1
    have e2 : getE xs.length p 4 = 0 := by unfold getE; rw [if_neg h0]; exact if_neg h1
    rw [e1, e2]
    obtain ⟨hb, ⟨rfl, rfl⟩ | ⟨a, cap, rfl, rfl, _⟩ | ⟨b, o, cap, rfl, _, hl, hm, hc⟩⟩ := hs
    · simp at h1; omega
    · simp at h1; omega
    · unfold maxLen at hm
      obtain ⟨q, rfl⟩ := Int.eq_ofNat_of_zero_le (show 0 ≤ p by omega)
      simp only [Int.toNat_natCast]
      exact get32_plain b o cap q xs hb (by omega) (by omega) w hc
end Go.Proofs.Ytabopcfhonkecaa
