/-
  Contracts of the document's own functions of package aes: a block turned. Condition: the numbers are bytes.
-/
import Derived.Test.YtekffhopmicalaaRefC
namespace Go.Proofs.Ytekffhopmicalaa
open Go.RowKit
/-- Sixteen bytes that a call hands out. -/
def SP (w : World) (xs : List Nat) (e : Ending) (w' : World) : Prop := ∃ x c, e = .returned (.slice x 16 c) ∧ Sees w' (.slice x 16 c) xs ∧ Below w.heap.size w w'
theorem OwnP.sp {w w' : World} {xs : List Nat} {e : Ending} (h : OwnP w xs e w') (hl : xs.length = 16) : SP w xs e w' := by
  obtain ⟨x, c, h1, h2, h3⟩ := h
  rw [hl] at h1 h2
  exact ⟨x, c, h1, h2.sees, h3⟩
theorem boxl_sb {S : List Nat} (h : Bts 16 S) : boxl S = sb bxs S := by
  unfold boxl sb
  rw [h.1]
  exact tab_congr fun i _ => (bxs_at (h.at_lt i)).symm
theorem spBoxed {g : Nat} {key S : List Nat} {x : Option Addr} {c : Nat} {W : World} (hr : RC W g key) (hS : Bts 16 S) (hs : Sees W (.slice x 16 c) S) : Calls Try.prog 43 #[.pointer (some ⟨g, 0, none⟩), .slice x 16 c] W (SP W (sb bxs S)) := by
  obtain ⟨bw, cw, y, cy, z, cz, hg, _, hy, _⟩ := hr
  have h := refBoxed g y cy x 16 c S W hS.1.symm (by omega) (cell_of_row _ _ 1 _ _ _ hg) hy hs
  rw [boxl_sb hS] at h
  exact h.mono fun _ _ h => h.sp (tab_len _ _)
theorem spRows {S : List Nat} {x : Option Addr} {c : Nat} {W : World} (hS : Bts 16 S) (hs : Sees W (.slice x 16 c) S) : Calls Try.prog 52 #[.slice x 16 c] W (SP W (mv 1 S)) :=
  (refRows x c S W hS hs).mono fun _ _ h => h.sp (tab_len _ _)
theorem spCols (f0 f1 f2 f3 : Nat) (h0 : f0 < 256) (h1 : f1 < 256) (h2 : f2 < 256) (h3 : f3 < 256) {S : List Nat} {x y : Option Addr} {c cy : Nat} {W : World} (hS : Bts 16 S) (hs : Sees W (.slice x 16 c) S) (hy : Sees W (.slice y 4 cy) [f0, f1, f2, f3]) : Calls Try.prog 53 #[.slice x 16 c, .slice y 4 cy] W (SP W (mx f0 f1 f2 f3 S)) :=
  (refColumns f0 f1 f2 f3 h0 h1 h2 h3 x c S y cy W hS hs hy).mono fun _ _ h => h.sp (tab_len _ _)
theorem spRound {g : Nat} {key : List Nat} {W : World} (r : Nat) (hr : r ≤ 14) (hk : Bts 32 key) (hc : RC W g key) : Calls Try.prog 51 #[.pointer (some ⟨g, 0, none⟩), .int .i64 r] W (SP W (rkey key r)) :=
  (refRound g key r hr W hk hc).mono fun _ _ h => h.sp (tab_len _ _)
theorem spXor {S K : List Nat} {x y : Option Addr} {c cy : Nat} {W : World} (hS : Bts 16 S) (hK : Bts 16 K) (hs : Sees W (.slice x 16 c) S) (hy : Sees W (.slice y 16 cy) K) : Calls Try.prog 45 #[.slice x 16 c, .slice y 16 cy] W (SP W (jn S K)) :=
  (refXored x 16 c S y 16 cy K W hS.1.symm hK.1.symm (by omega) (Nat.le_refl _) hs hy).mono fun _ _ h => h.sp (tab_len _ _)
set_option maxRecDepth 100000 in
set_option maxHeartbeats 4000000 in
theorem refTurn (g : Nat) (key b : List Nat) (x : Option Addr) (c : Nat) (w : World) (hk : Bts 32 key) (hb' : Bts 16 b) (hr : RC w g key) (hs : Sees w (.slice x 16 c) b) : Calls Try.prog 23 #[.pointer (some ⟨g, 0, none⟩), .slice x 16 c] w (SP w (turn (rkey key) b)) := by
  have HK := Lib.hid hk
  have HBB := Lib.hid hb'
  have HR := Lib.hid hr
  have HS := Lib.hid hs
  have R0 : Hid (∀ W, RC W g key → Calls Try.prog 51 #[.pointer (some ⟨g, 0, none⟩), .int .i64 0] W (SP W (rkey key 0))) := fun W h => spRound 0 (by omega) hk h
  have KB : Hid (∀ i, Bts 16 (rkey key i)) := rkey_bts hk
  have TB : Hid (∀ i, Bts 16 (trn (rkey key) b i)) := trn_bts (rkey_bts hk) hb'
  have T0 : Hid (jn b (rkey key 0) = trn (rkey key) b 0) := rfl
  clear hk hb' hr hs
  go_enter Try.func23, Try.ntmps23
  go_wp2_with fail
  refine (R0.out _ HR.out).mono ?_
  rintro e w1 ⟨x1, c1, rfl, hs1, hb1⟩
  have S1 := Lib.hid hs1
  have B1 := Lib.hid hb1
  clear hs1 hb1
  go_wp2_with fail
  refine (spXor HBB.out (KB.out 0) (HS.out.below B1.out) S1.out).mono ?_
  rintro e w2 ⟨x2, c2, rfl, hs2, hb2⟩
  rw [T0.out] at hs2
  have S2 := Lib.hid hs2
  have B2 := Lib.hid (B1.out.trans (hb2.mono B1.out.size))
  clear hs2 hb2 S1 B1 HS
  go_wp2_with fail
  go_loopw [1, 5] (fun v vi wr => ∃ (k : Nat) (q : Option Addr) (cp : Nat), k ≤ 14 ∧ vi = .int .i64 ((k + 1 : Nat) : Int) ∧ v = .slice q 16 cp ∧ Sees wr (.slice q 16 cp) (trn (rkey key) b k) ∧ Below w.heap.size w wr) (fun _ vi _ => 15 - (intOf vi).toNat)
  case atStart => exact ⟨0, x2, c2, by omega, rfl, rfl, S2.out, B2.out⟩
  case round =>
    clear S2 B2
    obtain ⟨k, q, cp, hi, rfl, rfl, hs, hb⟩ := hrel
    by_cases hlt : k < 14
    · have SB := Lib.hid (TB.out k)
      have SN : Hid (trn (rkey key) b (k + 1) = jn (cond (decide (k = 13)) (mv 1 (sb bxs (trn (rkey key) b k))) (mx 2 3 1 1 (mv 1 (sb bxs (trn (rkey key) b k))))) (rkey key (k + 1))) := rfl
      have K1 := Lib.hid (KB.out (k + 1))
      have HS := Lib.hid hs
      have HB := Lib.hid hb
      generalize trn (rkey key) b k = S at *
      have MB : Hid (Bts 16 (sb bxs S)) := sb_bts bxs_bts
      have MV : Hid (Bts 16 (mv 1 (sb bxs S))) := mv_bts 1 MB.out
      have MX : Hid (Bts 16 (mx 2 3 1 1 (mv 1 (sb bxs S)))) := mx_bts _ _ _ _ MV.out
      obtain ⟨j, hj⟩ : ∃ j, j = k + 1 := ⟨_, rfl⟩
      have RJ : Hid (∀ W, RC W g key → Calls Try.prog 51 #[.pointer (some ⟨g, 0, none⟩), .int .i64 j] W (SP W (rkey key j))) := fun W h => spRound j (by omega) HK.out h
      rw [← hj] at SN K1 ⊢
      have hj14 : (j : Int) ≤ 14 := by omega
      have HJ := Lib.hid hj
      clear hs hb
      have fin : ∀ (q : Option Addr) (cp : Nat) (W : World) (T : List Nat), Bts 16 T → trn (rkey key) b j = jn T (rkey key j) → True := fun _ _ _ _ _ _ => trivial
      clear fin
      by_cases hl : k = 13
      · have hq : ¬ (j : Int) < 14 := by omega
        have SN2 : Hid (trn (rkey key) b j = jn (mv 1 (sb bxs S)) (rkey key j)) := by show _ = _; rw [SN.out, hl]; rfl
        clear hl hj hlt hi SN
        go_wp2_with fail
        refine (spBoxed (HR.out.below HB.out) SB.out HS.out).mono ?_
        rintro e w3 ⟨x3, c3, rfl, hs3, hb3⟩
        have S3 := Lib.hid hs3
        have B3 := Lib.hid (HB.out.trans (hb3.mono HB.out.size))
        clear hs3 hb3 HS HB
        go_wp2_with fail
        refine (spRows MB.out S3.out).mono ?_
        rintro e w4 ⟨x4, c4, rfl, hs4, hb4⟩
        have S4 := Lib.hid hs4
        have B4 := Lib.hid (B3.out.trans (hb4.mono B3.out.size))
        clear hs4 hb4 S3 B3
        go_wp2_with fail
        refine (RJ.out _ (HR.out.below B4.out)).mono ?_
        rintro e w6 ⟨x6, c6, rfl, hs6, hb6⟩
        have S6 := Lib.hid hs6
        have SS6 := Lib.hid (S4.out.below hb6)
        have B6 := Lib.hid (B4.out.trans (hb6.mono B4.out.size))
        clear hs6 hb6 S4 B4
        go_wp2_with fail
        refine (spXor MV.out K1.out SS6.out S6.out).mono ?_
        rintro e w7 ⟨x7, c7, rfl, hs7, hb7⟩
        rw [← SN2.out] at hs7
        have S7 := Lib.hid hs7
        have B7 := Lib.hid (B6.out.trans (hb7.mono B6.out.size))
        clear hs7 hb7 S6 B6
        go_wp2_with fail
        go_roundw
        case rel =>
          have hj := HJ.out
          rw [hj] at S7
          exact ⟨k + 1, x7, c7, by omega, by rw [hj]; go_num, rfl, S7.out, B7.out⟩
        case measure => simp [intOf]; omega
      · have hq : (j : Int) < 14 := by omega
        have SN2 : Hid (trn (rkey key) b j = jn (mx 2 3 1 1 (mv 1 (sb bxs S))) (rkey key j)) := by
          show _ = _
          rw [SN.out, show decide (k = 13) = false by simpa using hl]; rfl
        clear hl hj hlt hi SN
        go_wp2_with fail
        refine (spBoxed (HR.out.below HB.out) SB.out HS.out).mono ?_
        rintro e w3 ⟨x3, c3, rfl, hs3, hb3⟩
        have S3 := Lib.hid hs3
        have B3 := Lib.hid (HB.out.trans (hb3.mono HB.out.size))
        clear hs3 hb3 HS HB
        go_wp2_with fail
        refine (spRows MB.out S3.out).mono ?_
        rintro e w4 ⟨x4, c4, rfl, hs4, hb4⟩
        have S4 := Lib.hid hs4
        have B4 := Lib.hid (B3.out.trans (hb4.mono B3.out.size))
        clear hs4 hb4 S3 B3
        go_wp2_with fail
        have hn := heap_alloc_new w4 (.cells #[.int .u8 2, .int .u8 3, .int .u8 1, .int .u8 1] 5)
        have b5 : Below w4.heap.size w4 (w4.alloc (.cells #[.int .u8 2, .int .u8 3, .int .u8 1, .int .u8 1] 5)) := (Below.refl _ _).alloc (Nat.le_refl _) _
        have f5 : Sees (w4.alloc (.cells #[.int .u8 2, .int .u8 3, .int .u8 1, .int .u8 1] 5)) (.slice (some ⟨w4.heap.size, 0, none⟩) 4 4) [2, 3, 1, 1] := sees_row _ _ [2, 3, 1, 1] (fun z hz => by simp at hz; omega) (by simp [maxLen]) hn 4 rfl
        have S4b := Lib.hid (S4.out.below b5)
        have B4b := Lib.hid (B4.out.trans (b5.mono B4.out.size))
        refine (spCols 2 3 1 1 (by omega) (by omega) (by omega) (by omega) MV.out S4b.out f5).mono ?_
        rintro e w5 ⟨x5, c5, rfl, hs5, hb5⟩
        have S5 := Lib.hid hs5
        have B5 := Lib.hid (B4b.out.trans (hb5.mono B4b.out.size))
        clear hs5 hb5 S4 B4 S4b B4b f5 b5 hn
        go_wp2_with fail
        refine (RJ.out _ (HR.out.below B5.out)).mono ?_
        rintro e w6 ⟨x6, c6, rfl, hs6, hb6⟩
        have S6 := Lib.hid hs6
        have SS6 := Lib.hid (S5.out.below hb6)
        have B6 := Lib.hid (B5.out.trans (hb6.mono B5.out.size))
        clear hs6 hb6 S5 B5
        go_wp2_with fail
        refine (spXor MX.out K1.out SS6.out S6.out).mono ?_
        rintro e w7 ⟨x7, c7, rfl, hs7, hb7⟩
        rw [← SN2.out] at hs7
        have S7 := Lib.hid hs7
        have B7 := Lib.hid (B6.out.trans (hb7.mono B6.out.size))
        clear hs7 hb7 S6 B6
        go_wp2_with fail
        go_roundw
        case rel =>
          have hj := HJ.out
          rw [hj] at S7
          exact ⟨k + 1, x7, c7, by omega, by rw [hj]; go_num, rfl, S7.out, B7.out⟩
        case measure => simp [intOf]; omega
    · obtain rfl : k = 14 := by omega
      have HS : Hid (Sees wr (.slice q 16 cp) (turn (rkey key) b)) := hs
      have HB := Lib.hid hb
      clear hs hb
      go_wp2_with fail
      go_ret
      exact ⟨q, cp, rfl, HS.out, HB.out⟩
end Go.Proofs.Ytekffhopmicalaa
