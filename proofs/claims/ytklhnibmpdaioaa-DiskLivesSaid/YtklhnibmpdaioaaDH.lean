/-
  Contract of disk.settle. Condition: the disk lies in memory as said; what is handed in answers, and leaves all as it is.
-/
import Derived.Test.YtklhnibmpdaioaaDG
namespace Go.Proofs.Ytklhnibmpdaioaa
open Go.RowKit
theorem mods_cell {S : Nat → Prop} {w w' : World} (m : Mods S w w') {k i : Nat} (hk : k < w.heap.size) (hS : ¬ S k) : w'.cell? ⟨k, i, none⟩ = w.cell? ⟨k, i, none⟩ := by
  simp [World.cell?, m.block k hk hS]
section
variable {w : World} {g N sb hb : Nat} {wv : Value} {su : Nat → Option Nat} {ws : List (Nat × Nat)} {rg : List Value} {c p : Int} {d : Bool} {K : Nat}
/-- A disk of which nothing waits. -/
def SetP (w : World) (g N sb hb : Nat) (wv : Value) (su : Nat → Option Nat) (rg : List Value) (c p : Int) (d : Bool) (K : Nat) (e : Ending) (w' : World) : Prop :=
  e = .returned (.tuple #[]) ∧ DK w' g N sb hb (.slice none 0 0) su [] rg c p d K ∧ Mods (Dt g sb hb wv) w w'
set_option maxRecDepth 100000 in
set_option maxHeartbeats 4000000 in
theorem settleD (h : DK w g N sb hb wv su ws rg c p d K) (F : Nat) (cb : Array Value) (kp : Nat → Bool) (eg : ∀ args w, (callFunc F args).run Try.prog w = .ok (.enter F args) w)
    (hk : ∀ (i : Nat) (W : World), i < ws.length → Mods (Dt g sb hb wv) w W → Calls Try.prog F (#[.int .i64 i] ++ cb) W fun e w' => e = .returned (.bool (kp i)) ∧ W = w') :
    Calls Try.prog 66 #[.pointer (some ⟨g, 0, none⟩), .func (.func F) #[] cb] w (SetP w g N sb hb wv (keepS kp su ws ws.length) rg c p d K) := by
  have H := Lib.hid h
  have HK := Lib.hid hk
  have c3 := h.c3
  obtain ⟨vs, rr, qs⟩ := h.waits
  have S0 : Hid (SK w w g N sb hb wv (keepS kp su ws 0) (hideS ws 0) 0 ws rg c p d K) := by
    refine ⟨h.row, ?_, ?_, Mods.refl _ _⟩
    · obtain ⟨n, f, a, b, e⟩ := h.sure
      exact ⟨n, f, a, by omega, e⟩
    · rw [hideS_zero]; exact h.shown
  obtain ⟨x, k, rfl, hx1, hx2⟩ := rr.form
  unfold maxLen at hx2
  have RR := Lib.hid rr
  have QS := Lib.hid qs
  clear h hk rr qs
  go_enter Try.func66, Try.ntmps66
  go_wp2_with fail
  go_loopg [4, 5, 11] ws.length (fun r _ _ vi wr => ∃ i n : Nat, r + i = ws.length ∧ n ≤ i ∧ vi = .int .i64 i ∧ SK w wr g N sb hb (.slice x ws.length k) (keepS kp su ws i) (hideS ws i) n ws rg c p d K)
  case atStart => exact ⟨0, 0, by omega, Nat.le_refl _, rfl, S0.out⟩
  case round =>
    clear S0
    obtain ⟨i, n, hr, hni, rfl, hs⟩ := hrel
    have S := Lib.hid hs
    have HR := Lib.hid hr
    clear hs
    by_cases hlt : i < ws.length
    · obtain ⟨s, y, hsy⟩ : ∃ s y, ws[i]? = some (s, y) := ⟨_, _, List.getElem?_eq_getElem hlt⟩
      obtain ⟨v, v1, v2, v3, v4, v5⟩ := WS_at QS.out hsy
      obtain ⟨b, o, rfl, hc0, _⟩ := Rw.cell RR.out v1
      obtain ⟨b', o', he, hc1, _⟩ := Rw.cell RR.out v2
      simp only [Option.some.injEq, Addr.mk.injEq] at he
      obtain ⟨rfl, rfl, _⟩ := he
      have hbw : b < w.heap.size := World.block_lt_of_cell? w _ hc0
      have hbk : ¬ (b = sb ∨ b = hb) := by
        have := H.out.kinds.2.2.2 b rfl
        omega
      have hd0 : wr.cell? ⟨b, o + i * 2, none⟩ = some (.int .u32 s) := (mods_cell S.out.m hbw hbk).trans hc0
      have hd1 : wr.cell? ⟨b, o + (i * 2 + 1), none⟩ = some v := (mods_cell S.out.m hbw hbk).trans hc1
      have hd2 : wr.cell? ⟨b, o + i * 2 + 1, none⟩ = some v := by rw [Nat.add_assoc]; exact hd1
      obtain ⟨vb, rfl, hvb⟩ : ∃ vb, v = .slice (some ⟨vb, 0, none⟩) 512 512 ∧ True := by
        obtain ⟨vb, rfl, _⟩ := v3
        exact ⟨vb, by rw [tx_len], trivial⟩
      obtain ⟨q, hq⟩ : ∃ q, q = wr.heap.size := ⟨_, rfl⟩
      obtain ⟨w1, hw1⟩ : ∃ w1, w1 = wr.alloc (.cells #[.int .u32 s, .slice (some ⟨vb, 0, none⟩) 512 512] 101) := ⟨_, rfl⟩
      have b1 : Below wr.heap.size wr w1 := by rw [hw1]; exact (Below.refl _ _).alloc (Nat.le_refl _) _
      have S1 := Lib.hid (S.out.below b1)
      have q1 : w1.heap[q]? = some (.cells #[.int .u32 s, .slice (some ⟨vb, 0, none⟩) 512 512] 101 (0, 0)) := by rw [hw1, hq]; exact heap_alloc_new _ _
      have kk := H.out.kinds
      have v31 : TX w1 (.slice (some ⟨vb, 0, none⟩) 512 512) (tx y) := v3.mods S1.out.m (fun b' cs h' e => kk.1 b' cs h' (by rcases e with e | e; exact .inr (.inl e); exact .inr (.inr (.inl e))))
      have V3 := Lib.hid v31
      have Q1 := Lib.hid q1
      have f0 : w1.cell? ⟨q, 0, none⟩ = some (.int .u32 s) := by rw [cell_of_row _ _ _ _ _ _ q1]; rfl
      have f1 : w1.cell? ⟨q, 1, none⟩ = some (.slice (some ⟨vb, 0, none⟩) 512 512) := by rw [cell_of_row _ _ _ _ _ _ q1]; rfl
      have HC := Lib.hid (HK.out i w1 hlt (S1.out.m.mono (T := Dt g sb hb (.slice (some ⟨b, o, none⟩) ws.length k)) (fun b hb' => .inl (by rcases hb' with e | e; exact .inr (.inl e); exact .inr (.inr (.inl e))))))
      have HW1 := Lib.hid hw1
      have HQ := Lib.hid hq
      have HSY := Lib.hid hsy
      have PB : Hid (s < 65536 ∧ y < 256 ∧ K ≤ 1000000 ∧ sb ≠ hb ∧ ws.length ≤ K) := by
        obtain ⟨_, _, _, hb0, _⟩ := H.out.sure
        exact ⟨v4, v5, H.out.wl, H.out.ne, by omega⟩
      have g1 : w1.cell? ⟨g, 1, none⟩ = some (.map (some sb)) := by rw [cell_of_row _ _ _ _ _ _ S1.out.row]; rfl
      have g2 : w1.cell? ⟨g, 2, none⟩ = some (.map (some hb)) := by rw [cell_of_row _ _ _ _ _ _ S1.out.row]; rfl
      clear v1 v2 v3 v31 hc0 hc1 b1 q1 kk hw1 hq hsy hbw hbk hr
      cases hkp : kp i with
      | true =>
        rw [hkp] at HC
        have ys := keepS_yes (su := su) HSY.out hkp
        obtain ⟨w2, st1, s2, m2⟩ := S1.out.drew.store PB.out.2.2.2.1 (by have := PB.out; omega) PB.out.1 (V3.out.heap (w' := w1.drew) rfl) PB.out.2.1 ys.1 ys.2
        have hz := hideS_step HSY.out
        obtain ⟨w3, st2, s3, m3⟩ := s2.drew.drop PB.out.2.2.2.1 PB.out.1 hz.1 hz.2
        have qk : ¬ q = sb := by have h1 := S.out.m.size; obtain ⟨_, _, m, _⟩ := S.out.sure; have := m.lt; have := HQ.out; omega
        have e0 : w2.cell? ⟨q, 0, none⟩ = some (.int .u32 s) := by
          have h1 := m2.block q (Array.getElem?_eq_some_iff.1 Q1.out).1 qk
          rw [cell_of_row _ _ _ _ _ _ (h1.trans Q1.out)]; rfl
        have g22 : w2.cell? ⟨g, 2, none⟩ = some (.map (some hb)) := by rw [cell_of_row _ _ _ _ _ _ s2.row]; rfl
        have S3 := Lib.hid s3
        have ST2 := Lib.hid st2
        clear ys s2 m2 hz s3 m3 qk hkp st2
        go_wp2_with fail
        rw [← HW1.out, ← HQ.out]
        refine HC.out.mono ?_
        rintro e w' ⟨rfl, rfl⟩
        go_wp2_with fail
        refine wp_region_still_tail 8 (by kernel_rfl) (by kernel_rfl) ?_
        simp only [List.take_succ_cons, List.take_zero, List.drop_succ_cons, List.drop_zero]
        iterate 8 still_step
        refine wpStill_nil ?_
        change wpList _ _ _ _ _ w1.drew
        clear hd0 hd1 hd2
        go_wp2_with fail
        refine wp_region_still_tail 6 (by kernel_rfl) (by kernel_rfl) ?_
        simp only [List.take_succ_cons, List.take_zero, List.drop_succ_cons, List.drop_zero]
        iterate 6 still_step
        refine wpStill_nil ?_
        change wpList _ _ _ _ _ w2.drew
        have st2 := ST2.out
        go_wp2_with fail
        go_roundg (ws.length - (i + 1))
        case measure => have := HR.out; omega
        case rel => exact ⟨i + 1, n + 1, by omega, by omega, by go_num, S3.out⟩
      | false =>
        rw [hkp] at HC
        have ks := keepS_no (su := su) (ws := ws) hkp
        have hz := hideS_step HSY.out
        obtain ⟨w3, st2, s3, m3⟩ := S1.out.drew.drop PB.out.2.2.2.1 PB.out.1 hz.1 hz.2
        rw [← ks] at s3
        have S3 := Lib.hid s3
        have ST2 := Lib.hid st2
        clear ks hz s3 m3 hkp st2
        go_wp2_with fail
        rw [← HW1.out, ← HQ.out]
        refine HC.out.mono ?_
        rintro e w' ⟨rfl, rfl⟩
        go_wp2_with fail
        refine wp_region_still_tail 6 (by kernel_rfl) (by kernel_rfl) ?_
        simp only [List.take_succ_cons, List.take_zero, List.drop_succ_cons, List.drop_zero]
        iterate 6 still_step
        refine wpStill_nil ?_
        change wpList _ _ _ _ _ w1.drew
        have st2 := ST2.out
        clear hd0 hd1 hd2
        go_wp2_with fail
        go_roundg (ws.length - (i + 1))
        case measure => have := HR.out; omega
        case rel => exact ⟨i + 1, n, by omega, by omega, by go_num, S3.out⟩
    · obtain rfl : i = ws.length := by omega
      have e3 : wr.cell? ⟨g, 3, none⟩ = some (.slice x ws.length k) := by rw [cell_of_row _ _ _ _ _ _ S.out.row]; rfl
      have e3f : wr.frozen? ⟨g, 3, none⟩ = false := by simp [World.frozen?, S.out.row]
      have hg : (wr.setCell ⟨g, 3, none⟩ (.slice none 0 0)).heap[g]? = some (.cells (dcells N sb hb (.slice none 0 0) rg c p d) 51 (0, 0)) := by rw [row_set S.out.row, dset_3]
      have mg : Mods (fun j => j = g) wr (wr.setCell ⟨g, 3, none⟩ (.slice none 0 0)) := Mods.set (S := fun j => j = g) wr ⟨g, 3, none⟩ _ rfl
      have mall : Mods (Dt g sb hb (.slice x ws.length k)) w (wr.setCell ⟨g, 3, none⟩ (.slice none 0 0)) :=
        (S.out.m.mono (T := Dt g sb hb (.slice x ws.length k)) (fun b hb' => .inl (by rcases hb' with e | e; exact .inr (.inl e); exact .inr (.inr (.inl e))))).trans mg (fun b hb' => .inl (.inl hb'))
      have hD : DK (wr.setCell ⟨g, 3, none⟩ (.slice none 0 0)) g N sb hb (.slice none 0 0) (keepS kp su ws ws.length) [] rg c p d K := by
        obtain ⟨n1, f1, m1, b1, s1⟩ := S.out.sure
        obtain ⟨n2, f2, m2, b2, s2⟩ := S.out.shown
        obtain ⟨kb, kg1, kg2⟩ := S.out.kinds
        have kA : ∀ b cs, wr.heap[b]? = some (.cells cs 5 (0, 0)) → ¬ b = g := fun b cs hb' e => by
          rw [e, S.out.row] at hb'; injection hb' with hb'; injection hb' with _ hb'; cases hb'
        refine ⟨H.out.n1, H.out.n2, hg, H.out.len, ⟨n1, f1, m1.mods mg (fun e => kg1 e.symm), by simp; omega, s1.mods mg kA⟩, ⟨n2, f2, m2.mods mg (fun e => kg2 e.symm), b2, ?_⟩, ⟨[], ⟨by simp, by simp, .inl ⟨rfl, rfl⟩⟩, rfl⟩, H.out.ne, H.out.wl⟩
        have := s2.mods mg kA
        intro s
        rcases this s with h1 | ⟨y, v, h1, _⟩
        · exact .inl ⟨rfl, h1.2⟩
        · rw [hideS_all] at h1; cases h1
      have HD := Lib.hid hD
      have HM := Lib.hid mall
      clear hg mg mall hD hr
      go_wp2_with fail
      go_end0
      exact ⟨rfl, HD.out, HM.out⟩
end
end Go.Proofs.Ytklhnibmpdaioaa
