/-
  Contracts of the document's functions of package entry: fields and noughts behind; which values are counts, volumes, roots and tenants. Condition: the slices read as bytes.
-/
import Derived.Test.YtbhkhkiidaemcaaES
namespace Go.Proofs.Ytbhkhkiidaemcaa
open Go.RowKit octetPuts
set_option maxRecDepth 100000 in
theorem nought (v : Value) (xs : List Int) (w : World) (h : Sees w v xs) : Calls Try.prog 43 #[v] w fun e w' => e = .returned (.bool (decide (xs = zs xs.length))) ∧ w = w' := by
  obtain ⟨x, cap, rfl, h63⟩ := h.form
  have H := Lib.hid h
  obtain ⟨n, hn⟩ : ∃ n, n = xs.length := ⟨_, rfl⟩
  have HN := Lib.hid hn
  rw [← hn] at h63 ⊢
  have h63' : (n : Int) ≤ 9223372036854775807 := by omega
  clear h hn
  go_enter Try.func43, Try.ntmps43
  go_wp2_with fail
  go_loopw [3] (fun vi wr => ∃ k : Nat, k ≤ n ∧ vi = .int .i64 (k : Int) ∧ wr = w ∧ ∀ i, i < k → nth xs i = 0) (fun vi _ => n - (intOf vi).toNat)
  case atStart => exact ⟨0, by omega, rfl, by first | rfl | trivial, fun i h => by omega⟩
  case round =>
    obtain ⟨k, hk, rfl, rfl, hz⟩ := hrel
    have HZ := Lib.hid hz
    clear hz
    by_cases hlt : k < n
    · have hki : (k : Int) < n := by omega
      obtain ⟨_, ⟨h1, h2⟩ | ⟨_, _, h1, h2, _⟩ | ⟨b, o, c, h1, _, _, _, hc⟩⟩ := H.out
      · rw [h2] at HN; have := HN.out; simp at this; omega
      · rw [h2] at HN; have := HN.out; simp at this; omega
      · simp only [Value.slice.injEq] at h1
        obtain ⟨rfl, _, rfl⟩ := h1
        have hkx : k < xs.length := by have := HN.out; omega
        have hc2 := hc k hkx
        by_cases h0 : nth xs k = 0
        · rw [h0] at hc2
          have HZ2 : Hid (∀ i, i < k + 1 → nth xs i = 0) := fun i hi => by
            by_cases hik : i = k
            · rw [hik]; exact h0
            · exact HZ.out i (by omega)
          clear h0 hc
          go_wp2_with fail
          go_roundw
          case rel => exact ⟨k + 1, by omega, by go_num, by first | rfl | trivial, HZ2.out⟩
          case measure => simp [intOf]; omega
        · have hne : (nth xs k != 0) = true := by simpa using h0
          have HF : Hid (decide (xs = zs n) = false) := decide_eq_false (by rw [HN.out]; exact nought_no hkx h0)
          clear hc
          go_wp2_with fail
          go_ret
          exact ⟨by rw [HF.out]; rfl, rfl⟩
    · have hkn : k = n := by omega
      subst hkn
      have HT : Hid (decide (xs = zs k) = true) := decide_eq_true (by rw [HN.out]; exact nought_all (fun i hi => HZ.out i (by rw [HN.out]; exact hi)))
      clear hlt
      go_wp2_with fail
      go_ret
      exact ⟨by rw [HT.out]; rfl, rfl⟩
theorem FP_zero (P : List (List Int)) : FP P 0 = [] := by simp [FP]
theorem zs_snoc (n : Nat) : zs n ++ [0] = zs (n + 1) := zs_add n 1
set_option maxRecDepth 100000 in
set_option maxHeartbeats 8000000 in
theorem full (g n : Nat) (vs : List Value) (P : List (List Int)) (hn : n = P.length) (hn9 : n ≤ 100) (hs : P.flatten.length ≤ 44) (w : World) (hg : w.heap[g]? = some (.cells vs.toArray 43 (0, 0))) (hA : AllSees w vs P) :
    Calls Try.prog 18 #[.slice (some ⟨g, 0, none⟩) n n] w (OwnP w (fv P)) := by
  have HC : Hid (∀ (W : World) (k : Nat) (p : List Int), Below w.heap.size w W → P[k]? = some p → ∃ v, W.cell? ⟨g, k, none⟩ = some v ∧ Sees W v p) := fun W k p hW h => by
    obtain ⟨v, hv, hs, _⟩ := hA.at k p h
    refine ⟨v, ?_, hs.below hW⟩
    rw [hW.cell (p := ⟨g, k, none⟩) (blk_lt hg), cell_of_row _ _ _ _ _ _ hg]
    simpa using hv
  have HS := Lib.hid hs
  have HN := Lib.hid hn
  have hn100 : (n : Int) ≤ 100 := by omega
  clear hn hs hA hg hn9
  go_enter Try.func18, Try.ntmps18
  go_upto_region 2 with (fail)
  go_wp2_with fail
  go_loopw [3, 4] (fun v3 v4 wr => ∃ (k : Nat) (x : Option Addr) (c : Nat), k ≤ n ∧ v4 = .int .i64 (k : Int) ∧ v3 = .slice x (FP P k).length c ∧ Own wr w.heap.size (.slice x (FP P k).length c) (FP P k) ∧ Below w.heap.size w wr)
    (fun _ v4 _ => n - (intOf v4).toNat)
  case atStart => exact ⟨0, none, 0, by omega, rfl, by rw [FP_zero]; rfl, by rw [FP_zero]; exact own_nil _ _, Below.refl _ _⟩
  case round =>
    obtain ⟨k, x, c, hk, rfl, rfl, ho, hbl⟩ := hrel
    have HO := Lib.hid ho
    have HB := Lib.hid hbl
    clear ho hbl
    by_cases hlt : k < n
    · have hki : (k : Int) < n := by omega
      have hkP : k < P.length := by rw [← HN.out]; exact hlt
      obtain ⟨v, hv, hsv⟩ := HC.out _ k P[k] HB.out (List.getElem?_eq_getElem hkP)
      have hsu := FP_succ P k P[k] (List.getElem?_eq_getElem hkP)
      have hle := FP_le P (k + 1)
      rw [hsu, List.length_append] at hle
      obtain ⟨x', c', w', hr, ho', _, hb'⟩ := app HO.out hsv (by have := HS.out; omega) HB.out.size
      rw [← List.length_append, ← hsu] at hr ho'
      have R := Lib.hid hr
      have O' := Lib.hid ho'
      have B' := Lib.hid (HB.out.trans hb')
      clear hr ho' hb' hsv hle hsu
      generalize (FP P k).length = f at *
      go_wp2_with (at_builtin; refine wpList_app rfl (.tmp 11) (.tmp 15) rfl rfl rfl rfl R.out ?_)
      go_roundw
      case rel => exact ⟨k + 1, x', c', by omega, by go_num, rfl, O'.out, B'.out⟩
      case measure => simp [intOf]; omega
    · have hkn : k = P.length := by have := HN.out; omega
      have hki : ¬ (k : Int) < n := by omega
      rw [hkn, FP_all] at HO
      have hfl : (FP P k).length = P.flatten.length := by rw [hkn, FP_all]
      rw [hfl]
      obtain ⟨m, hm⟩ : ∃ m, m = P.flatten.length := ⟨_, rfl⟩
      have HM := Lib.hid hm
      have hm44 : m ≤ 44 := by have := HS.out; omega
      rw [← hm] at HO ⊢
      clear hm hkn hfl hlt hk
      go_wp2_with fail
      go_loopw [3] (fun v3 wr => ∃ (j : Nat) (x : Option Addr) (c : Nat), m + j ≤ 44 ∧ v3 = .slice x (m + j) c ∧ Own wr w.heap.size (.slice x (m + j) c) (P.flatten ++ zs j) ∧ Below w.heap.size w wr)
        (fun v3 _ => 44 - (match v3 with | .slice _ l _ => l | _ => 0))
      case atStart => exact ⟨0, x, c, by omega, rfl, by simpa [zs] using HO.out, HB.out⟩
      case round =>
        obtain ⟨j, x, c, hj, rfl, ho, hbl⟩ := hrel
        have HO2 := Lib.hid ho
        have HB2 := Lib.hid hbl
        clear ho hbl HO HB
        obtain ⟨L, hL⟩ : ∃ L, L = m + j := ⟨_, rfl⟩
        rw [← hL] at hj HO2 ⊢
        have HLL := Lib.hid hL
        by_cases hlt : L < 44
        · have hlt2 : (L : Int) < 44 := by omega
          have hal : Below wr.heap.size wr (wr.alloc (.cells #[.int .u8 0] 5)) := (Below.refl _ _).alloc (Nat.le_refl _) _
          have hO := HO2.out.below hal
          have hsv := sees_new wr #[.int .u8 0] [0] rfl (byt_of _ rfl) (by decide) _ rfl 1 rfl
          have hB := HB2.out.trans (hal.mono HB2.out.size)
          have hlen : (P.flatten ++ zs j).length = L := by rw [List.length_append, zs_len, ← HM.out]; omega
          obtain ⟨x', c', w', hr, ho', _, hb'⟩ := app hO hsv (by rw [hlen]; simp; omega) hB.size
          rw [hlen] at hr ho'
          rw [List.append_assoc, zs_snoc] at ho'
          have R := Lib.hid hr
          have O' := Lib.hid ho'
          have B' := Lib.hid (hB.trans hb')
          clear hr ho' hb' hsv hB hO hal hlen hL
          go_wp2_with (at_builtin; refine wpList_app rfl (.tmp 20) (.tmp 21) rfl rfl rfl rfl R.out ?_)
          go_roundw
          case rel => exact ⟨j + 1, x', c', by have := HLL.out; omega, by rw [HLL.out]; rfl, by have := O'.out; rw [HLL.out] at this; exact this, B'.out⟩
          case measure => simp; omega
        · have hlt2 : ¬ (L : Int) < 44 := by omega
          have hj44 : j = 44 - P.flatten.length := by have := HM.out; omega
          have hl44 : (fv P).length = L := by rw [fv_len (by have := HM.out; omega)]; omega
          rw [hj44] at HO2
          have HL := Lib.hid hl44
          clear hL hj44 hl44
          go_wp2_with fail
          go_ret
          refine ⟨x, c, by rw [HL.out]; rfl, ?_, HB2.out⟩
          rw [HL.out]
          exact HO2.out
end Go.Proofs.Ytbhkhkiidaemcaa
