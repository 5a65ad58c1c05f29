/-
  The contract of the document's size. Unconditional: what the fields of a kind take, without data.
-/
import Derived.Test.YtdohggpajhkkhaaRqAA
import Derived.Test.YtdohggpajhkkhaaRqS
namespace Go.Proofs.Ytdohggpajhkkhaa
open Go.RowKit
def sW (l : List Nat) : Nat := (l.map wN).sum
theorem sW_succ (l : List Nat) (j a : Nat) (h : l[j]? = some a) : sW (l.take (j + 1)) = sW (l.take j) + wN a := by
  unfold sW
  rw [List.take_add_one, h]
  simp
theorem wN_le (a : Nat) : wN a ≤ 2 := by rcases wN_cases a with h | h <;> omega
theorem sW_le : ∀ l : List Nat, sW l ≤ 2 * l.length
  | [] => by simp [sW]
  | a :: r => by
    have h := sW_le r
    have h2 := wN_le a
    unfold sW at h ⊢
    simp only [List.map_cons, List.sum_cons, List.length_cons]
    omega
theorem flen_s (k : Int) : flen k = sW (nA k) + 32 * (nK k).length + sW (nB k) := by
  cases hb : kindB k with
  | false =>
    obtain ⟨e1, e2, e3⟩ := nums_no hb
    rw [e1, e2, e3]
    have hk : ¬ (1 ≤ k ∧ k ≤ 16) := by
      unfold kindB at hb
      simpa using hb
    unfold flen
    rw [if_neg (by omega), if_neg (by omega), if_neg (by omega), if_neg (by omega), if_neg (by omega), if_neg (by omega), if_neg (by omega), if_neg (by omega), if_neg (by omega), if_neg (by omega), if_neg (by omega), if_neg (by omega), if_neg (by omega), if_neg (by omega), if_neg (by omega), if_neg (by omega)]
    rfl
  | true => rcases kind_cases hb with rfl | rfl | rfl | rfl | rfl | rfl | rfl | rfl | rfl | rfl | rfl | rfl | rfl | rfl | rfl | rfl <;> decide
set_option maxRecDepth 100000 in
set_option maxHeartbeats 1000000 in
theorem sizeC (k : Int) (w : World) : Calls Try.prog 29 #[.int .i64 k] w fun e w' => e = .returned (.int .i64 (flen k : Nat)) ∧ Below w.heap.size w w' := by
  have NM := Lib.hid (numsC k w)
  obtain ⟨la, lk, lb⟩ := nums_le k
  obtain ⟨sa8, -, sb8⟩ := nums_small (k := k)
  have LA := Lib.hid la
  have LB := Lib.hid lb
  have LK := Lib.hid lk
  have SA8 := Lib.hid sa8
  have SB8 := Lib.hid sb8
  have FL := Lib.hid (flen_s k)
  clear la lk lb sa8 sb8
  go_enter Try.func29, Try.ntmps29
  go_wp2_with fail
  refine NM.out.mono ?_
  rintro e w3 ⟨va, vk, vb, rfl, sa, sk, sb, hb⟩
  obtain ⟨xa, ca, rfl⟩ := sa.form
  obtain ⟨xk, kc, rfl⟩ := sk.form
  obtain ⟨xb, cb, rfl⟩ := sb.form
  have HB := Lib.hid hb
  have SA := Lib.hid sa
  have SB := Lib.hid sb
  have hkl : ((nK k).length : Int) ≤ 8 := by have := LK.out; omega
  clear hb sa sk sb NM
  go_upto_region 4 with (fail)
  go_loop [6, 7] (fun o i => ∃ j : Nat, j ≤ (nA k).length ∧ i = .int .i64 j ∧ o = .int .i64 ((32 : Int) * ((nK k).length : Int) + (sW ((nA k).take j) : Int))) (fun _ i => (nA k).length - (intOf i).toNat)
  case atStart => exact ⟨0, Nat.zero_le _, rfl, by go_num⟩
  case round =>
    obtain ⟨j, hj, rfl, rfl⟩ := hrel
    have hs := sW_le ((nA k).take j)
    have hl8 := LA.out
    have ht : ((nA k).take j).length ≤ 8 := by rw [List.length_take]; omega
    have hsc : (sW ((nA k).take j) : Int) ≤ 16 := by omega
    clear hs ht
    by_cases hlt : j < (nA k).length
    · obtain ⟨a, ha⟩ : ∃ a, (nA k)[j]? = some a := ⟨_, List.getElem?_eq_getElem hlt⟩
      have ha8 : a < 8 := SA8.out a (List.mem_of_getElem? ha)
      obtain ⟨ga, rfl, cc⟩ := SA.out.at ha
      have E := Lib.hid (sW_succ _ _ _ ha)
      have hw2 := wN_le a
      have WC := Lib.hid (widthN a ha8)
      clear ha
      generalize sW ((nA k).take j) = s at hsc E ⊢
      go_wp2_with fail
      refine (WC.out _).mono ?_
      rintro e w' ⟨rfl, rfl⟩
      go_wp2
      go_round
      case rel => exact ⟨j + 1, by omega, by go_num, by rw [E.out]; go_num⟩
      case measure => simp [intOf]; omega
    · have hja : j = (nA k).length := by omega
      subst hja
      rw [List.take_of_length_le (Nat.le_refl _)] at hsc ⊢
      generalize sW (nA k) = s1 at hsc FL ⊢
      go_upto_region 8 with (fail)
      go_loop [6, 8] (fun o i => ∃ j : Nat, j ≤ (nB k).length ∧ i = .int .i64 j ∧ o = .int .i64 ((32 : Int) * ((nK k).length : Int) + (s1 : Int) + (sW ((nB k).take j) : Int))) (fun _ i => (nB k).length - (intOf i).toNat)
      case atStart => exact ⟨0, Nat.zero_le _, rfl, by simp [sW]⟩
      case round =>
        obtain ⟨j, hj, rfl, rfl⟩ := hrel
        have hs := sW_le ((nB k).take j)
        have hl8 := LB.out
        have ht : ((nB k).take j).length ≤ 8 := by rw [List.length_take]; omega
        have hsd : (sW ((nB k).take j) : Int) ≤ 16 := by omega
        clear hs ht
        by_cases hlt : j < (nB k).length
        · obtain ⟨a, ha⟩ : ∃ a, (nB k)[j]? = some a := ⟨_, List.getElem?_eq_getElem hlt⟩
          have ha8 : a < 8 := SB8.out a (List.mem_of_getElem? ha)
          obtain ⟨ga, rfl, cc⟩ := SB.out.at ha
          have E := Lib.hid (sW_succ _ _ _ ha)
          have hw2 := wN_le a
          have WC := Lib.hid (widthN a ha8)
          clear ha
          generalize sW ((nB k).take j) = s at hsd E ⊢
          go_wp2_with fail
          refine (WC.out _).mono ?_
          rintro e w' ⟨rfl, rfl⟩
          go_wp2
          go_round
          case rel => exact ⟨j + 1, by omega, by go_num, by rw [E.out]; go_num⟩
          case measure => simp [intOf]; omega
        · have hja : j = (nB k).length := by omega
          subst hja
          rw [List.take_of_length_le (Nat.le_refl _)] at hsd ⊢
          generalize sW (nB k) = s2 at hsd FL ⊢
          go_wp2
          go_ret
          exact ⟨by rw [FL.out]; go_num, HB.out⟩
end Go.Proofs.Ytdohggpajhkkhaa
