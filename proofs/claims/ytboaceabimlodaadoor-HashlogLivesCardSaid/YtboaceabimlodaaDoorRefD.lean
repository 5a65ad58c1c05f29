/-
  Contracts of the document's own functions of package sha: the eight numbers, the sixty-four, a filled text. Condition: the text is of bounded length.
-/
import Derived.Test.YtboaceabimlodaaDoorRefC
namespace Go.Proofs.YtboaceabimlodaaDoor
open Go.RowKit
theorem WordsP.mk {w : World} {xs : List Int} {n : Nat} {cs : Array Value} (hcs : cs = ucells xs) (hn : n = xs.length) (hm : n ≤ maxLen) : WordsP w xs (.returned (.slice (some ⟨w.heap.size, 0, none⟩) n n)) (w.alloc (.cells cs 56)) := by
  subst hn
  exact ⟨_, _, rfl, ownk_lit xs w cs hcs _ rfl hm, (Below.refl _ _).alloc (Nat.le_refl _) _⟩
set_option maxRecDepth 100000 in
theorem eightD (w : World) : Calls Tryd.prog 25 #[] w (WordsP w SQ) := by
  go_enter Tryd.func25, Tryd.ntmps25
  go_wp2
  go_ret
  exact WordsP.mk (by kernel_rfl) (by kernel_rfl) (by decide)
set_option maxRecDepth 100000 in
theorem sixtyD (w : World) : Calls Tryd.prog 26 #[] w (WordsP w KK) := by
  go_enter Tryd.func26, Tryd.ntmps26
  go_wp2
  go_ret
  exact WordsP.mk (by kernel_rfl) (by kernel_rfl) (by decide)
theorem bytes8 (v : Int) (h0 : 0 ≤ v) (h1 : v ≤ 18446744073709551615) (w : World) : Calls Tryd.prog 29 #[.int .u64 v, .int .i64 8] w (OwnP w (be 8 v)) := refBytes v 8 (by omega) h0 h1 w
theorem bytes4 (v : Int) (h0 : 0 ≤ v) (h1 : v ≤ 18446744073709551615) (w : World) : Calls Tryd.prog 29 #[.int .u64 v, .int .i64 4] w (OwnP w (be 4 v)) := refBytes v 4 (by omega) h0 h1 w
def lenOf : Value → Nat
  | .slice _ n _ => n
  | _ => 0
theorem Own.lower {w : World} {b b' : Nat} {v : Value} {xs : List Int} (h : Own w b v xs) (hb : b' ≤ b) : Own w b' v xs := by
  obtain ⟨h0, hl, h⟩ := h
  refine ⟨h0, hl, ?_⟩
  rcases h with h | ⟨g, cap', cur, e1, e2, e3⟩
  · exact .inl h
  · exact .inr ⟨g, cap', cur, e1, Nat.le_trans hb e2, e3⟩
/-- A filled text. -/
def fillD (xs : List Int) : List Int := xs ++ tail xs.length
theorem fillD_eq (xs : List Int) : fillD xs = (xs ++ [128] ++ List.replicate ((119 - xs.length % 64) % 64) 0) ++ be 8 (8 * (xs.length : Int)) := by simp [fillD, tail]
set_option maxRecDepth 100000 in
set_option maxHeartbeats 4000000 in
theorem filledD (v : Value) (xs : List Int) (hl : xs.length ≤ 1000000) (w : World) (h : Sees w v xs) : Calls Tryd.prog 24 #[v] w (OwnP w (fillD xs)) := by
  obtain ⟨x, cap, rfl, _⟩ := id h.form
  obtain ⟨n, hn⟩ : ∃ n, n = xs.length := ⟨_, rfl⟩
  have CP := Lib.hid (copy _ xs (by omega) w h)
  have HN := Lib.hid hn
  have HL := Lib.hid hl
  have hnl : n ≤ 1000000 := by omega
  have FD := Lib.hid (fillD_eq xs)
  rw [← hn]
  clear hn hl h
  go_enter Tryd.func24, Tryd.ntmps24
  go_wp2_with fail
  rw [HN.out]
  refine CP.out.mono ?_
  rintro e w1 ⟨x1, c1, rfl, ho1, hb1⟩
  rw [← HN.out] at ho1
  have hs1 : Sees (w1.alloc (.cells #[.int .u8 128] 5)) (.slice (some ⟨w1.heap.size, 0, none⟩) 1 1) [128] := sees_new w1 #[.int .u8 128] [128] rfl (fun z hz => by simp at hz; omega) (by simp [maxLen]) _ rfl 1 rfl
  have ba : Below w1.heap.size w1 (w1.alloc (.cells #[.int .u8 128] 5)) := (Below.refl _ _).alloc (Nat.le_refl _) _
  obtain ⟨x2, c2, w2, hr2, ho2, hg2, hb2⟩ := app (ho1.below ba) hs1 (by simp; have := HL.out; omega) (by have := hb1.size; simp; omega)
  rw [← HN.out] at hr2 ho2
  simp only [List.length_cons, List.length_nil, Nat.zero_add] at hr2 ho2
  have HR2 := Lib.hid hr2
  have HO2 := Lib.hid ho2
  have HB2 : Hid (Below w.heap.size w w2) := (hb1.trans (ba.mono hb1.size)).trans hb2
  rw [← HN.out]
  clear ho1 hb1 hs1 ba hr2 ho2 hg2 hb2
  go_wp2_with (at_builtin; refine wpList_app rfl (.tmp 5) (.tmp 6) rfl rfl rfl rfl HR2.out ?_)
  obtain ⟨r, hr⟩ : ∃ r, r = (119 - n % 64) % 64 := ⟨_, rfl⟩
  have hr1 : (n + 1 + r) % 64 = 56 := by omega
  have hr2 : ∀ j, j < r → (n + 1 + j) % 64 ≠ 56 := by intro j hj; omega
  have HRA := Lib.hid hr1
  have HRB := Lib.hid hr2
  have hr64 : r < 64 := by omega
  have HRR := Lib.hid hr
  clear hr hr1 hr2
  go_loopw [3] (fun v wr => ∃ (j : Nat) (q : Option Addr) (c : Nat), j ≤ r ∧ v = .slice q (n + 1 + j) c ∧ Own wr w.heap.size (.slice q (n + 1 + j) c) (xs ++ [128] ++ List.replicate j 0) ∧ Below w.heap.size w wr) (fun v _ => n + 1 + r - lenOf v)
  case atStart => exact ⟨0, x2, c2, by omega, rfl, by simpa using HO2.out, HB2.out⟩
  case round =>
    obtain ⟨j, q, c, hj, rfl, ho, hb⟩ := hrel
    by_cases hlt : j < r
    · have hs : Sees (wr.alloc (.cells #[.int .u8 0] 5)) (.slice (some ⟨wr.heap.size, 0, none⟩) 1 1) [0] := sees_new wr #[.int .u8 0] [0] rfl (fun z hz => by simp at hz; omega) (by simp [maxLen]) _ rfl 1 rfl
      have ba : Below wr.heap.size wr (wr.alloc (.cells #[.int .u8 0] 5)) := (Below.refl _ _).alloc (Nat.le_refl _) _
      have hlen : (xs ++ [128] ++ List.replicate j (0 : Int)).length = n + 1 + j := by simp [HN.out]; omega
      obtain ⟨x3, c3, w3, hr3, ho3, hg3, hb3⟩ := app (ho.below ba) hs (by rw [hlen]; simp; omega) (by have := hb.size; simp; omega)
      rw [hlen] at hr3 ho3
      simp only [List.length_cons, List.length_nil, Nat.zero_add] at hr3 ho3
      have e3 : xs ++ [128] ++ List.replicate j (0 : Int) ++ [0] = xs ++ [128] ++ List.replicate (j + 1) 0 := by rw [List.append_assoc, ← List.replicate_succ']
      rw [e3] at ho3
      have HR3 := Lib.hid hr3
      have HO3 := Lib.hid ho3
      have HB3 : Hid (Below w.heap.size w w3) := (hb.trans (ba.mono hb.size)).trans hb3
      obtain ⟨L, hL⟩ : ∃ L, L = n + 1 + j := ⟨_, rfl⟩
      have hm := HRB.out j hlt
      rw [← hL] at hm ⊢
      have hm1 : ((L : Int) % 64 == 56) = false := by simp; omega
      have hm2 : ((L : Int) % 64 != 56) = true := by simp; omega
      rw [← hL] at HR3
      have HLL := Lib.hid hL
      clear hs ba hlen hr3 ho3 hg3 hb3 e3 ho hb hm hL
      go_wp2_with (at_builtin; refine wpList_app rfl (.tmp 12) (.tmp 13) rfl rfl rfl rfl HR3.out ?_)
      go_roundw
      case rel => exact ⟨j + 1, x3, c3, by omega, by rw [HLL.out]; rfl, HO3.out, HB3.out⟩
      case measure => have := HLL.out; simp [lenOf]; omega
    · obtain rfl : j = r := by omega
      obtain ⟨L, hL⟩ : ∃ L, L = n + 1 + j := ⟨_, rfl⟩
      have hm := HRA.out
      rw [← hL] at hm ⊢
      have hm1 : ((L : Int) % 64 == 56) = true := by simp; omega
      have hm2 : ((L : Int) % 64 != 56) = false := by simp; omega
      have hlen : (xs ++ [128] ++ List.replicate j (0 : Int)).length = L := by simp [HN.out, hL]; omega
      rw [← hL] at ho
      have HO := Lib.hid ho
      have HB := Lib.hid hb
      have HLL := Lib.hid hlen
      have hLb : L ≤ 1000100 := by omega
      have HRL := Lib.hid HRR.out
      clear ho hb hm hL hlen
      go_wp2_with fail
      refine (bytes8 (8 * (n : Int)) (by omega) (by omega) wr).mono ?_
      rintro e w4 ⟨x4, c4, rfl, ho4, hb4⟩
      obtain ⟨x5, c5, w5, hr5, ho5, hg5, hb5⟩ := app (HO.out.below hb4) ho4.sees (by rw [HLL.out, be_len]; omega) (by have := HB.out.size; have := hb4.size; omega)
      rw [HLL.out, be_len] at hr5 ho5
      rw [be_len]
      have HR5 := Lib.hid hr5
      have HO5 := Lib.hid ho5
      have HB5 : Hid (Below w.heap.size w w5) := (HB.out.trans (hb4.mono HB.out.size)).trans hb5
      clear ho4 hb4 hr5 ho5 hg5 hb5 HO HB
      go_wp2_with (at_builtin; refine wpList_app rfl (.tmp 15) (.tmp 20) rfl rfl rfl rfl HR5.out ?_)
      go_ret
      have e5 : fillD xs = xs ++ [128] ++ List.replicate j 0 ++ be 8 (8 * (n : Int)) := by rw [FD.out, HRL.out, HN.out]
      have hl5 : (fillD xs).length = L + 8 := by rw [e5, List.length_append, HLL.out, be_len]
      unfold OwnP
      rw [hl5, e5]
      exact ⟨_, _, rfl, HO5.out, HB5.out⟩
end Go.Proofs.YtboaceabimlodaaDoor
