/-
  Contracts of the functions that the statements of package super go through: are all bytes 0; a head and a register as the document's; the next head. Condition: the numbers fit their kinds.
-/
import Derived.Test.YtplffbpnjnbolaaSuG
namespace Go.Proofs.Ytplffbpnjnbolaa
open Go.RowKit
theorem nought_all {xs : List Int} (h : ∀ i, i < xs.length → nth xs i = 0) : xs = zs xs.length := by
  apply List.ext_getElem
  · simp [zs_len]
  · intro i h1 h2
    have := h i h1
    simp only [nth, List.getD, List.getElem?_eq_getElem h1, Option.getD_some] at this
    simp [zs, this]
theorem nought_no {xs : List Int} {i : Nat} (hi : i < xs.length) (h : nth xs i ≠ 0) : xs ≠ zs xs.length := fun e => by
  apply h
  rw [e]
  simp [nth, zs, List.getD, hi]
set_option maxRecDepth 100000 in
theorem nought (v : Value) (xs : List Int) (w : World) (h : Sees w v xs) : Calls Try.prog 36 #[v] w fun e w' => e = .returned (.bool (decide (xs = zs xs.length))) ∧ w = w' := by
  obtain ⟨x, cap, rfl, h63⟩ := h.form
  have H := Lib.hid h
  obtain ⟨n, hn⟩ : ∃ n, n = xs.length := ⟨_, rfl⟩
  have HN := Lib.hid hn
  rw [← hn] at h63 ⊢
  have h63' : (n : Int) ≤ 9223372036854775807 := by omega
  clear h hn
  go_enter Try.func36, Try.ntmps36
  go_wp2_with fail
  go_loopw [3] (fun vi wr => ∃ k : Nat, k ≤ n ∧ vi = .int .i64 (k : Int) ∧ wr = w ∧ ∀ i, i < k → nth xs i = 0) (fun vi _ => n - (intOf vi).toNat)
  case atStart => exact ⟨0, by omega, rfl, by first | rfl | trivial, fun i h => by omega⟩
  case round =>
    obtain ⟨k, hk, rfl, rfl, hz⟩ := hrel
    have HZ := Lib.hid hz
    clear hz
    by_cases hlt : k < n
    · have hki : (k : Int) < n := by omega
      obtain ⟨_, ⟨h1, h2⟩ | ⟨_, _, h1, h2, _⟩ | ⟨b, o, c, h1, _, _, _, hc⟩⟩ := H.out
      · rw [h2] at HN; have := HN.out; simp at this; omega
      · rw [h2] at HN; have := HN.out; simp at this; omega
      · simp only [Value.slice.injEq] at h1
        obtain ⟨rfl, _, rfl⟩ := h1
        have hkx : k < xs.length := by have := HN.out; omega
        have hc2 := hc k hkx
        by_cases h0 : nth xs k = 0
        · rw [h0] at hc2
          have HZ2 : Hid (∀ i, i < k + 1 → nth xs i = 0) := fun i hi => by
            by_cases hik : i = k
            · rw [hik]; exact h0
            · exact HZ.out i (by omega)
          clear h0 hc
          go_wp2_with fail
          go_roundw
          case rel => exact ⟨k + 1, by omega, by go_num, by first | rfl | trivial, HZ2.out⟩
          case measure => simp [intOf]; omega
        · have hne : (nth xs k != 0) = true := by simpa using h0
          have HF : Hid (decide (xs = zs n) = false) := decide_eq_false (by rw [HN.out]; exact nought_no hkx h0)
          clear hc
          go_wp2_with fail
          go_ret
          exact ⟨by rw [HF.out]; rfl, rfl⟩
    · have hkn : k = n := by omega
      subst hkn
      have HT : Hid (decide (xs = zs k) = true) := decide_eq_true (by rw [HN.out]; exact nought_all (fun i hi => HZ.out i (by rw [HN.out]; exact hi)))
      clear hlt
      go_wp2_with fail
      go_ret
      exact ⟨by rw [HT.out]; rfl, rfl⟩
/-- The next head. -/
def nxE (H : Hd) : Int := if H.g = 18446744073709551615 then 5 else 0
def nxV (H : Hd) : Hd := if H.g = 18446744073709551615 then H0 else { H with g := H.g + 1 }
def NextP (w : World) (H : Hd) (e : Ending) (w' : World) : Prop := e = .returned (.tuple #[.agg (hcells (nxV H)), .int .i64 (nxE H)]) ∧ Below w.heap.size w w'
theorem hset0 (H : Hd) (a : Int) : (hcells H).setIfInBounds 0 (.int .u64 a) = hcells { H with g := a } := by
  apply Array.ext'
  rw [Array.toList_setIfInBounds, hcells_toList, hcells_toList]
  rfl
set_option maxRecDepth 100000 in
set_option maxHeartbeats 4000000 in
theorem next (H : Hd) (hH : H.ok) (w : World) : Calls Try.prog 17 #[.agg (hcells H)] w (NextP w H) := by
  have hz29 := z29
  have IR := Lib.hid (i29 hH.2.2.2.2)
  have I0 := Lib.hid (i29 H0_ok.2.2.2.2)
  have O0 := Lib.hid (one_hcells H0)
  have BZ := Lib.hid bld29
  obtain ⟨W2, hW2⟩ : ∃ W2, W2 = (w.alloc (.cells (hcells H) 29)).alloc (.cells (hcells H0) 29) := ⟨_, rfl⟩
  have HW2 := Lib.hid hW2
  have BE : Hid (Below w.heap.size w W2) := by rw [hW2]; exact ((Below.refl _ _).alloc (Nat.le_refl _) _).alloc (by simp) _
  have G1 : Hid (W2.heap[w.heap.size]? = some (.cells (hcells H) 29 (0, 0))) := by show _ = _; rw [hW2, Below.heap_alloc _ _ _ (by simp)]; exact heap_alloc_new w _
  have G2 : Hid (W2.heap[w.heap.size + 1]? = some (.cells (hcells H0) 29 (0, 0))) := by show _ = _; rw [hW2]; exact heap_alloc2_new w _ _
  have c0 : ((w.alloc (.cells (hcells H) 29)).alloc (.cells (hcells H0) 29)).cell? ⟨w.heap.size, 0, none⟩ = some (.int .u64 H.g) := by rw [← hW2]; exact hcell0 G1.out
  by_cases hg : H.g = 18446744073709551615
  · have P : Hid (∀ W', Below w.heap.size w W' → NextP w H (.returned (.tuple #[.agg (hcells H0), .int .i64 5])) W') := fun W' hb => by
      unfold NextP nxE nxV
      rw [if_pos hg, if_pos hg]; exact ⟨rfl, hb⟩
    rw [hg] at c0
    generalize hcells H0 = Z at *
    clear hW2 hH
    go_enter Try.func17, Try.ntmps17
    go_wp2_with (first
      | (refine wpList_blank_met rfl 29 rfl (BZ.out _) ?_)
      | (refine wpList_store_row rfl 29 (.tmp 2) (.tmp 7) rfl (w.heap.size + 1) Z rfl rfl 29 Z (by rw [← HW2.out]; exact G2.out) I0.out rfl O0.out ?_; rw [← HW2.out, setRow_self _ _ _ _ _ G2.out]))
    exact bodyPost_ret (v := .tuple #[.agg Z, .int .i64 5]) (results_cell_tmp Try.results17 _ _ (w.heap.size + 1) 29 Z (0, 0) _ rfl G2.out Try.underlying29 rfl I0.out) rfl (P.out _ BE.out)
  · have P : Hid (∀ W', Below w.heap.size w W' → NextP w H (.returned (.tuple #[.agg (hcells { H with g := H.g + 1 }), .int .i64 0])) W') := fun W' hb => by
      unfold NextP nxE nxV
      rw [if_neg hg, if_neg hg]; exact ⟨rfl, hb⟩
    have g0 := hH.1.1
    have g1 := hH.1.2
    have fz : ((w.alloc (.cells (hcells H) 29)).alloc (.cells (hcells H0) 29)).frozen? ⟨w.heap.size, 0, none⟩ = false := by rw [← hW2]; exact frozen_block G1.out 0
    have hst : ((w.alloc (.cells (hcells H) 29)).alloc (.cells (hcells H0) 29)).setCell ⟨w.heap.size, 0, none⟩ (.int .u64 (H.g + 1)) = W2.setRow w.heap.size (hcells { H with g := H.g + 1 }) := by
      rw [← hW2, setCell_eq_setRow _ _ _ _ _ _ _ G1.out, hset0]
    have hst2 : ((w.alloc (.cells (hcells H) 29)).alloc (.cells (hcells H0) 29)).setCell ⟨w.heap.size, 0, none⟩ (.int .u64 ((H.g + 1) % 18446744073709551616)) = W2.setRow w.heap.size (hcells { H with g := H.g + 1 }) := by
      rw [show (H.g + 1) % 18446744073709551616 = H.g + 1 by omega]; exact hst
    have B3 := Lib.hid (BE.out.trans (below_row (B := w.heap.size) (g := w.heap.size) _ (hcells { H with g := H.g + 1 }) (Nat.le_refl _)))
    have G13 : Hid ((W2.setRow w.heap.size (hcells { H with g := H.g + 1 })).heap[w.heap.size]? = some (.cells (hcells { H with g := H.g + 1 }) 29 (0, 0))) := setRow_heap _ _ _ _ _ _ G1.out
    have G23 : Hid ((W2.setRow w.heap.size (hcells { H with g := H.g + 1 })).heap[w.heap.size + 1]? = some (.cells (hcells H0) 29 (0, 0))) := (setRow_other _ _ _ _ (by omega)).trans G2.out
    have I3 := Lib.hid (i29 (H := { H with g := H.g + 1 }) hH.2.2.2.2)
    have O3 := Lib.hid (one_hcells { H with g := H.g + 1 })
    have ZZ : Hid ((hcells H0).size = (hcells { H with g := H.g + 1 }).size) := by show _ = _; rw [hcells_size (zs_len 32), hcells_size (H := { H with g := H.g + 1 }) hH.2.2.2.2]
    have hgn : ¬ H.g = 18446744073709551615 := hg
    generalize hcells { H with g := H.g + 1 } = C3 at *
    generalize hcells H0 = Z at *
    generalize hcells H = C at *
    generalize W2.setRow w.heap.size C3 = W3 at *
    generalize H.g = a at *
    have hge : (a == 18446744073709551615) = false := by rw [beq_eq_false_iff_ne]; exact hg
    clear hW2 hH hg
    go_enter Try.func17, Try.ntmps17
    go_wp2_with (first
      | (refine wpList_load_row rfl 29 (.tmp 1) rfl w.heap.size rfl 29 C3 (0, 0) _ G13.out Try.underlying29 rfl I3.out ?_)
      | (refine wpList_store_row rfl 29 (.tmp 2) (.tmp 12) rfl (w.heap.size + 1) C3 rfl rfl 29 Z G23.out I3.out ZZ.out O3.out ?_))
    exact bodyPost_ret (v := .tuple #[.agg C3, .int .i64 0]) (results_cell_tmp Try.results17 _ _ (w.heap.size + 1) 29 C3 (0, 0) _ rfl (setRow_heap _ _ _ _ _ _ G23.out) Try.underlying29 rfl I3.out) rfl (P.out _ (B3.out.trans (below_row _ _ (by omega))))
end Go.Proofs.Ytplffbpnjnbolaa
