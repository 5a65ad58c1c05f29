/-
  The document's cipher: its Turn and Back once more, with where the bytes of their results lie. Condition: the numbers are bytes.
-/
import Derived.Test.YtpkeofioobmmoaaGreatDoorAeRefP
namespace Go.Proofs.YtpkeofioobmmoaaGreatDoor.ae.wq
open Go.RowKit
set_option maxRecDepth 100000 in
theorem own_wi {W : World} {b : Nat} {v : Value} {l : List Nat} (h : Own W b v l) : WI 0 W v l := by
  refine ⟨h.sees, fun k hk => ?_⟩
  rcases h.2.2 with ⟨hv, _⟩ | ⟨g, cap, cur, hv, _, hg, _⟩
  · rw [hv] at hk
    simp [Value.ownBlock] at hk
  · rw [hv] at hk
    simp only [Value.ownBlock, Option.some.injEq] at hk
    rw [← hk]
    exact .inr ⟨cur, hg⟩
/-- Sixteen bytes that a call hands out. -/
def SP (w : World) (xs : List Nat) (e : Ending) (w' : World) : Prop := ∃ x c, e = .returned (.slice x 16 c) ∧ WI 0 w' (.slice x 16 c) xs ∧ Below w.heap.size w w'
set_option maxRecDepth 100000 in
theorem sp_own {w w' : World} {xs : List Nat} {e : Ending} (h : OwnP w xs e w') (hl : xs.length = 16) : SP w xs e w' := by
  obtain ⟨x, c, h1, h2, h3⟩ := h
  rw [hl] at h1 h2
  exact ⟨x, c, h1, own_wi h2, h3⟩
set_option maxRecDepth 100000 in
theorem spBoxed {g : Nat} {key S : List Nat} {x : Option Addr} {c : Nat} {W : World} (hr : RC W g key) (hS : Bts 16 S) (hs : WI 0 W (.slice x 16 c) S) : Calls Tryz.prog 51 #[.pointer (some ⟨g, 0, none⟩), .slice x 16 c] W (SP W (sb bxs S)) := by
  obtain ⟨bw, cw, y, cy, z, cz, hg, _, hy, _⟩ := hr
  have h := refBoxed g y cy x 16 c S W hS.1.symm (by omega) (cell_of_row _ _ 1 _ _ _ hg) hy hs.1
  rw [boxl_sb hS] at h
  exact h.mono fun _ _ h => sp_own h (tab_len _ _)
set_option maxRecDepth 100000 in
theorem spRows {S : List Nat} {x : Option Addr} {c : Nat} {W : World} (hS : Bts 16 S) (hs : WI 0 W (.slice x 16 c) S) : Calls Tryz.prog 56 #[.slice x 16 c] W (SP W (mv 1 S)) :=
  (refRows x c S W hS hs.1).mono fun _ _ h => sp_own h (tab_len _ _)
set_option maxRecDepth 100000 in
theorem spCols (f0 f1 f2 f3 : Nat) (h0 : f0 < 256) (h1 : f1 < 256) (h2 : f2 < 256) (h3 : f3 < 256) {S : List Nat} {x y : Option Addr} {c cy : Nat} {W : World} (hS : Bts 16 S) (hs : WI 0 W (.slice x 16 c) S) (hy : Sees W (.slice y 4 cy) [f0, f1, f2, f3]) : Calls Tryz.prog 55 #[.slice x 16 c, .slice y 4 cy] W (SP W (mx f0 f1 f2 f3 S)) :=
  (refColumns f0 f1 f2 f3 h0 h1 h2 h3 x c S y cy W hS hs.1 hy).mono fun _ _ h => sp_own h (tab_len _ _)
set_option maxRecDepth 100000 in
theorem spRound {g : Nat} {key : List Nat} {W : World} (r : Nat) (hr : r ≤ 14) (hk : Bts 32 key) (hc : RC W g key) : Calls Tryz.prog 54 #[.pointer (some ⟨g, 0, none⟩), .int .i64 r] W (SP W (rkey key r)) :=
  (refRound g key r hr W hk hc).mono fun _ _ h => sp_own h (tab_len _ _)
set_option maxRecDepth 100000 in
theorem spXor {S K : List Nat} {x y : Option Addr} {c cy : Nat} {W : World} (hS : Bts 16 S) (hK : Bts 16 K) (hs : WI 0 W (.slice x 16 c) S) (hy : WI 0 W (.slice y 16 cy) K) : Calls Tryz.prog 53 #[.slice x 16 c, .slice y 16 cy] W (SP W (jn S K)) :=
  (refXored x 16 c S y 16 cy K W hS.1.symm hK.1.symm (by omega) (Nat.le_refl _) hs.1 hy.1).mono fun _ _ h => sp_own h (tab_len _ _)
set_option maxRecDepth 100000 in
set_option maxHeartbeats 4000000 in
theorem refTurn (g : Nat) (key b : List Nat) (x : Option Addr) (c : Nat) (w : World) (hk : Bts 32 key) (hb' : Bts 16 b) (hr : RC w g key) (hs : WI 0 w (.slice x 16 c) b) : Calls Tryz.prog 40 #[.pointer (some ⟨g, 0, none⟩), .slice x 16 c] w (SP w (turn (rkey key) b)) := by
  have HK := Lib.hid hk
  have HBB := Lib.hid hb'
  have HR := Lib.hid hr
  have HS := Lib.hid hs
  have R0 : Hid (∀ W, RC W g key → Calls Tryz.prog 54 #[.pointer (some ⟨g, 0, none⟩), .int .i64 0] W (SP W (rkey key 0))) := fun W h => spRound 0 (by omega) hk h
  have KB : Hid (∀ i, Bts 16 (rkey key i)) := rkey_bts hk
  have TB : Hid (∀ i, Bts 16 (trn (rkey key) b i)) := trn_bts (rkey_bts hk) hb'
  have T0 : Hid (jn b (rkey key 0) = trn (rkey key) b 0) := rfl
  clear hk hb' hr hs
  go_enter Tryz.func40, Tryz.ntmps40
  go_wp2_with fail
  refine (R0.out _ HR.out).mono ?_
  rintro e w1 ⟨x1, c1, rfl, hs1, hb1⟩
  have S1 := Lib.hid hs1
  have B1 := Lib.hid hb1
  clear hs1 hb1
  go_wp2_with fail
  refine (spXor HBB.out (KB.out 0) (HS.out.below B1.out) S1.out).mono ?_
  rintro e w2 ⟨x2, c2, rfl, hs2, hb2⟩
  rw [T0.out] at hs2
  have S2 := Lib.hid hs2
  have B2 := Lib.hid (B1.out.trans (hb2.mono B1.out.size))
  clear hs2 hb2 S1 B1 HS
  go_wp2_with fail
  go_loopw [1, 5] (fun v vi wr => ∃ (k : Nat) (q : Option Addr) (cp : Nat), k ≤ 14 ∧ vi = .int .i64 ((k + 1 : Nat) : Int) ∧ v = .slice q 16 cp ∧ WI 0 wr (.slice q 16 cp) (trn (rkey key) b k) ∧ Below w.heap.size w wr) (fun _ vi _ => 15 - (intOf vi).toNat)
  case atStart => exact ⟨0, x2, c2, by omega, rfl, rfl, S2.out, B2.out⟩
  case round =>
    clear S2 B2
    obtain ⟨k, q, cp, hi, rfl, rfl, hs, hb⟩ := hrel
    by_cases hlt : k < 14
    · have SB := Lib.hid (TB.out k)
      have SN : Hid (trn (rkey key) b (k + 1) = jn (cond (decide (k = 13)) (mv 1 (sb bxs (trn (rkey key) b k))) (mx 2 3 1 1 (mv 1 (sb bxs (trn (rkey key) b k))))) (rkey key (k + 1))) := rfl
      have K1 := Lib.hid (KB.out (k + 1))
      have HS := Lib.hid hs
      have HB := Lib.hid hb
      generalize trn (rkey key) b k = S at *
      have MB : Hid (Bts 16 (sb bxs S)) := sb_bts bxs_bts
      have MV : Hid (Bts 16 (mv 1 (sb bxs S))) := mv_bts 1 MB.out
      have MX : Hid (Bts 16 (mx 2 3 1 1 (mv 1 (sb bxs S)))) := mx_bts _ _ _ _ MV.out
      obtain ⟨j, hj⟩ : ∃ j, j = k + 1 := ⟨_, rfl⟩
      have RJ : Hid (∀ W, RC W g key → Calls Tryz.prog 54 #[.pointer (some ⟨g, 0, none⟩), .int .i64 j] W (SP W (rkey key j))) := fun W h => spRound j (by omega) HK.out h
      rw [← hj] at SN K1 ⊢
      have hj14 : (j : Int) ≤ 14 := by omega
      have HJ := Lib.hid hj
      clear hs hb
      have fin : ∀ (q : Option Addr) (cp : Nat) (W : World) (T : List Nat), Bts 16 T → trn (rkey key) b j = jn T (rkey key j) → True := fun _ _ _ _ _ _ => trivial
      clear fin
      by_cases hl : k = 13
      · have hq : ¬ (j : Int) < 14 := by omega
        have SN2 : Hid (trn (rkey key) b j = jn (mv 1 (sb bxs S)) (rkey key j)) := by show _ = _; rw [SN.out, hl]; rfl
        clear hl hj hlt hi SN
        go_wp2_with fail
        refine (spBoxed (HR.out.below HB.out) SB.out HS.out).mono ?_
        rintro e w3 ⟨x3, c3, rfl, hs3, hb3⟩
        have S3 := Lib.hid hs3
        have B3 := Lib.hid (HB.out.trans (hb3.mono HB.out.size))
        clear hs3 hb3 HS HB
        go_wp2_with fail
        refine (spRows MB.out S3.out).mono ?_
        rintro e w4 ⟨x4, c4, rfl, hs4, hb4⟩
        have S4 := Lib.hid hs4
        have B4 := Lib.hid (B3.out.trans (hb4.mono B3.out.size))
        clear hs4 hb4 S3 B3
        go_wp2_with fail
        refine (RJ.out _ (HR.out.below B4.out)).mono ?_
        rintro e w6 ⟨x6, c6, rfl, hs6, hb6⟩
        have S6 := Lib.hid hs6
        have SS6 := Lib.hid (S4.out.below hb6)
        have B6 := Lib.hid (B4.out.trans (hb6.mono B4.out.size))
        clear hs6 hb6 S4 B4
        go_wp2_with fail
        refine (spXor MV.out K1.out SS6.out S6.out).mono ?_
        rintro e w7 ⟨x7, c7, rfl, hs7, hb7⟩
        rw [← SN2.out] at hs7
        have S7 := Lib.hid hs7
        have B7 := Lib.hid (B6.out.trans (hb7.mono B6.out.size))
        clear hs7 hb7 S6 B6
        go_wp2_with fail
        go_roundw
        case rel =>
          have hj := HJ.out
          rw [hj] at S7
          exact ⟨k + 1, x7, c7, by omega, by rw [hj]; go_num, rfl, S7.out, B7.out⟩
        case measure => simp [intOf]; omega
      · have hq : (j : Int) < 14 := by omega
        have SN2 : Hid (trn (rkey key) b j = jn (mx 2 3 1 1 (mv 1 (sb bxs S))) (rkey key j)) := by
          show _ = _
          rw [SN.out, show decide (k = 13) = false by simpa using hl]; rfl
        clear hl hj hlt hi SN
        go_wp2_with fail
        refine (spBoxed (HR.out.below HB.out) SB.out HS.out).mono ?_
        rintro e w3 ⟨x3, c3, rfl, hs3, hb3⟩
        have S3 := Lib.hid hs3
        have B3 := Lib.hid (HB.out.trans (hb3.mono HB.out.size))
        clear hs3 hb3 HS HB
        go_wp2_with fail
        refine (spRows MB.out S3.out).mono ?_
        rintro e w4 ⟨x4, c4, rfl, hs4, hb4⟩
        have S4 := Lib.hid hs4
        have B4 := Lib.hid (B3.out.trans (hb4.mono B3.out.size))
        clear hs4 hb4 S3 B3
        go_wp2_with fail
        have hn := heap_alloc_new w4 (.cells #[.int .u8 2, .int .u8 3, .int .u8 1, .int .u8 1] 5)
        have b5 : Below w4.heap.size w4 (w4.alloc (.cells #[.int .u8 2, .int .u8 3, .int .u8 1, .int .u8 1] 5)) := (Below.refl _ _).alloc (Nat.le_refl _) _
        have f5 : Sees (w4.alloc (.cells #[.int .u8 2, .int .u8 3, .int .u8 1, .int .u8 1] 5)) (.slice (some ⟨w4.heap.size, 0, none⟩) 4 4) [2, 3, 1, 1] := sees_row _ _ [2, 3, 1, 1] (fun z hz => by simp at hz; omega) (by simp [maxLen]) hn 4 rfl
        have S4b := Lib.hid (S4.out.below b5)
        have B4b := Lib.hid (B4.out.trans (b5.mono B4.out.size))
        refine (spCols 2 3 1 1 (by omega) (by omega) (by omega) (by omega) MV.out S4b.out f5).mono ?_
        rintro e w5 ⟨x5, c5, rfl, hs5, hb5⟩
        have S5 := Lib.hid hs5
        have B5 := Lib.hid (B4b.out.trans (hb5.mono B4b.out.size))
        clear hs5 hb5 S4 B4 S4b B4b f5 b5 hn
        go_wp2_with fail
        refine (RJ.out _ (HR.out.below B5.out)).mono ?_
        rintro e w6 ⟨x6, c6, rfl, hs6, hb6⟩
        have S6 := Lib.hid hs6
        have SS6 := Lib.hid (S5.out.below hb6)
        have B6 := Lib.hid (B5.out.trans (hb6.mono B5.out.size))
        clear hs6 hb6 S5 B5
        go_wp2_with fail
        refine (spXor MX.out K1.out SS6.out S6.out).mono ?_
        rintro e w7 ⟨x7, c7, rfl, hs7, hb7⟩
        rw [← SN2.out] at hs7
        have S7 := Lib.hid hs7
        have B7 := Lib.hid (B6.out.trans (hb7.mono B6.out.size))
        clear hs7 hb7 S6 B6
        go_wp2_with fail
        go_roundw
        case rel =>
          have hj := HJ.out
          rw [hj] at S7
          exact ⟨k + 1, x7, c7, by omega, by rw [hj]; go_num, rfl, S7.out, B7.out⟩
        case measure => simp [intOf]; omega
    · obtain rfl : k = 14 := by omega
      have HS : Hid (WI 0 wr (.slice q 16 cp) (turn (rkey key) b)) := hs
      have HB := Lib.hid hb
      clear hs hb
      go_wp2_with fail
      go_ret
      exact ⟨q, cp, rfl, HS.out, HB.out⟩
set_option maxRecDepth 100000 in
set_option maxHeartbeats 8000000 in
theorem refBack (g : Nat) (key b : List Nat) (x : Option Addr) (c : Nat) (w : World) (hk : Bts 32 key) (hb' : Bts 16 b) (hr : RC w g key) (hs : WI 0 w (.slice x 16 c) b) : Calls Tryz.prog 33 #[.pointer (some ⟨g, 0, none⟩), .slice x 16 c] w (SP w (back (rkey key) b)) := by
  have HK := Lib.hid hk
  have HBB' := Lib.hid hb'
  have HR := Lib.hid hr
  have HS := Lib.hid hs
  have R0 : Hid (∀ W, RC W g key → Calls Tryz.prog 54 #[.pointer (some ⟨g, 0, none⟩), .int .i64 0] W (SP W (rkey key 0))) := fun W h => spRound 0 (by omega) hk h
  have KB : Hid (∀ i, Bts 16 (rkey key i)) := rkey_bts hk
  have TB : Hid (∀ i, Bts 16 (bkn (rkey key) b i)) := bkn_bts hb'
  clear hk hb' hr hs
  go_enter Tryz.func33, Tryz.ntmps33
  go_wp2_with fail
  go_loopw [1, 5, 6, 7] (fun v vi _ _ wr => ∃ (k i : Nat) (q : Option Addr) (cp : Nat), i + k = 14 ∧ vi = .int .i64 i ∧ v = .slice q 16 cp ∧ WI 0 wr (.slice q 16 cp) (bkn (rkey key) b k) ∧ Below w.heap.size w wr) (fun _ vi _ _ _ => (intOf vi).toNat)
  case atStart => exact ⟨0, 14, x, c, by omega, rfl, rfl, HS.out, Below.refl _ _⟩
  case round =>
    clear HS
    obtain ⟨k, i, q, cp, hi, rfl, rfl, hs, hb⟩ := hrel
    by_cases hlt : 1 ≤ i
    · have SB := Lib.hid (TB.out k)
      have SN : Hid (bkn (rkey key) b (k + 1) = sb kxs (mv 3 (cond (decide (k = 0)) (jn (bkn (rkey key) b k) (rkey key (14 - k))) (mx 14 11 13 9 (jn (bkn (rkey key) b k) (rkey key (14 - k))))))) := rfl
      rw [show 14 - k = i by omega] at SN
      have K1 := Lib.hid (KB.out i)
      have HS := Lib.hid hs
      have HB := Lib.hid hb
      generalize bkn (rkey key) b k = S at *
      have JB : Hid (Bts 16 (jn S (rkey key i))) := jn_bts SB.out K1.out
      have MX : Hid (Bts 16 (mx 14 11 13 9 (jn S (rkey key i)))) := mx_bts _ _ _ _ JB.out
      have RJ : Hid (∀ W, RC W g key → Calls Tryz.prog 54 #[.pointer (some ⟨g, 0, none⟩), .int .i64 i] W (SP W (rkey key i))) := fun W h => spRound i (by omega) HK.out h
      have hi1 : (1 : Int) ≤ (i : Int) := by omega
      have hi14 : (i : Int) ≤ 14 := by omega
      have HI := Lib.hid hi
      clear hs hb
      go_wp2_with fail
      refine (RJ.out _ (HR.out.below HB.out)).mono ?_
      rintro e w3 ⟨x3, c3, rfl, hs3, hb3⟩
      have S3 := Lib.hid hs3
      have SS3 := Lib.hid (HS.out.below hb3)
      have B3 := Lib.hid (HB.out.trans (hb3.mono HB.out.size))
      clear hs3 hb3 HS HB
      go_wp2_with fail
      refine (spXor SB.out K1.out SS3.out S3.out).mono ?_
      rintro e w4 ⟨x4, c4, rfl, hs4, hb4⟩
      have S4 := Lib.hid hs4
      have B4 := Lib.hid (B3.out.trans (hb4.mono B3.out.size))
      clear hs4 hb4 S3 SS3 B3
      generalize jn S (rkey key i) = J at *
      by_cases hl : k = 0
      · have hq : ¬ (i : Int) < 14 := by omega
        have SN2 : Hid (bkn (rkey key) b (k + 1) = sb kxs (mv 3 J)) := by show _ = _; rw [SN.out, hl]; rfl
        clear hl hi SN hlt
        go_wp2_with fail
        refine (spRows JB.out S4.out).mono ?_
        rintro e v1 ⟨y1, d1, rfl, hs1, hb1⟩
        have V1 := Lib.hid hs1
        have D1 := Lib.hid (B4.out.trans (hb1.mono B4.out.size))
        clear hs1 hb1 S4 B4
        go_wp2_with fail
        refine (spRows (mv_bts 1 JB.out) V1.out).mono ?_
        rintro e v2 ⟨y2, d2, rfl, hs2, hb2⟩
        have V2 := Lib.hid hs2
        have D2 := Lib.hid (D1.out.trans (hb2.mono D1.out.size))
        clear hs2 hb2 V1 D1
        go_wp2_with fail
        refine (spRows (mv_bts 1 (mv_bts 1 JB.out)) V2.out).mono ?_
        rintro e v3 ⟨y3, d3, rfl, hs3, hb3⟩
        rw [mv_111] at hs3
        have D3 := Lib.hid (D2.out.trans (hb3.mono D2.out.size))
        have XX : Hid (Bts 16 (mv 3 J)) := mv_bts 3 JB.out
        obtain ⟨bb, oo, rfl, _, _, _, hcc⟩ := hs3.1.at16 (by rw [XX.out.1]; omega)
        have CC : Hid (∀ i, i < 16 → v3.cell? ⟨bb, oo + i, none⟩ = some (.int .u8 (at_ (mv 3 J) i : Nat))) := fun i hi => hcc i (by rw [XX.out.1]; exact hi)
        have LBB : Hid (bb < v3.heap.size) := World.block_lt_of_cell? v3 _ (CC.out 0 (by omega))
        obtain ⟨bw, cw, y, cy, z, cz, hg, _, _, hz⟩ := HR.out.below D3.out
        have CG : Hid (v3.cell? ⟨g, 2, none⟩ = some (.slice z 256 cz)) := cell_of_row _ _ 2 _ _ _ hg
        have LG := Lib.hid (blk_lt hg)
        obtain ⟨bz, oz, rfl, _, _, _, hzc⟩ := hz.at16 (by rw [kxs_len]; omega)
        have CZ : Hid (∀ i, i < 256 → v3.cell? ⟨bz, oz + i, none⟩ = some (.int .u8 (at_ kxs i : Nat))) := fun i hi => hzc i (by rw [kxs_len]; exact hi)
        have LBZ : Hid (bz < v3.heap.size) := World.block_lt_of_cell? v3 _ (CZ.out 0 (by omega))
        generalize mv 3 J = M at *
        rename_i p1 p2 p3 p4 p5 p6 p7 p8
        clear p1 p2 p3 p4 p5 p6 p7 p8
        clear hs3 hb3 hcc hzc hg hz V2 D2
        go_wp2_with fail
        go_loopw [6, 7] (fun v vi wr => ∃ (n : Nat) (q : Option Addr) (c : Nat), n ≤ 16 ∧ vi = .int .i64 n ∧ v = .slice q n c ∧ Own wr v3.heap.size (.slice q n c) (tab n (fun i => at_ kxs (at_ M i))) ∧ Below v3.heap.size v3 wr) (fun _ vi _ => 16 - (intOf vi).toNat)
        case atStart => exact ⟨0, none, 0, by omega, rfl, rfl, own_nil _ _, Below.refl _ _⟩
        case round =>
          obtain ⟨n, q, c, hn, rfl, rfl, ho, hb⟩ := hrel
          by_cases hln : n < 16
          · have hn16 : (n : Int) < 16 := by omega
            have xl := XX.out.at_lt n
            have CX := Lib.hid (CC.out n hln)
            have CY := Lib.hid (CZ.out _ xl)
            obtain ⟨q1, c1, w1, hrun, ho1, hb1⟩ := ho.drew.push (x := at_ kxs (at_ M n)) (kxs_bts.at_lt _) (by rw [tab_len]; omega) hb.size
            rw [← tab_succ n (fun i => at_ kxs (at_ M i)), tab_len] at ho1
            rw [tab_len] at hrun
            have HO1 := Lib.hid ho1
            have HR := Lib.hid hrun
            have HBB := Lib.hid hb
            have HB2 := Lib.hid (hb.drew.trans hb1)
            clear ho1 hrun hb1 ho hb
            generalize at_ kxs (at_ M n) = zz at *
            generalize at_ M n = ee at *
            have xl' : (ee : Int) < 256 := by omega
            go_wp2_with fail
            refine wp_region_held_drew (S := fun W => Below v3.heap.size v3 W) (by kernel_rfl) HBB.out.drew (fun hS => ?_)
            refine' wpAnyH_take (i := 0) ?h1x0p ?hsx0p ?hfx0p ?hrx0p ?hQx0p (Or.inl ⟨?hwx0p, ?hyx0p⟩) hS ?restx0p
            case h1x0p => (simp only [List.getElem?_toArray, List.getElem?_cons_zero]; rfl)
            case hsx0p | hfx0p | hrx0p => kernel_rfl
            case hQx0p => exact fun _ _ _ h => h
            case hwx0p => rfl
            case hyx0p =>
              intro W hW
              go_simp
              try with_reducible rfl
            simp only [Act.put, List.setIfInBounds_toArray, List.set_cons_succ, List.set_cons_zero]
            refine' wpAnyH_take (i := 1) ?h1x1p ?hsx1p ?hfx1p ?hrx1p ?hQx1p (Or.inl ⟨?hwx1p, ?hyx1p⟩) hS ?restx1p
            case h1x1p => (simp only [List.getElem?_toArray, List.getElem?_cons_succ, List.getElem?_cons_zero]; rfl)
            case hsx1p | hfx1p | hrx1p => kernel_rfl
            case hQx1p => exact fun _ _ _ h => h
            case hwx1p => rfl
            case hyx1p =>
              intro W hW
              go_simp
              try with_reducible rfl
            simp only [Act.put, List.setIfInBounds_toArray, List.set_cons_succ, List.set_cons_zero]
            refine' wpAnyH_take (i := 2) ?h1x2p ?hsx2p ?hfx2p ?hrx2p ?hQx2p (Or.inl ⟨?hwx2p, ?hyx2p⟩) hS ?restx2p
            case h1x2p => (simp only [List.getElem?_toArray, List.getElem?_cons_succ, List.getElem?_cons_zero]; rfl)
            case hsx2p | hfx2p | hrx2p => kernel_rfl
            case hQx2p => exact fun _ _ _ h => h
            case hwx2p => rfl
            case hyx2p =>
              intro W hW
              go_simp
              try with_reducible rfl
            simp only [Act.put, List.setIfInBounds_toArray, List.set_cons_succ, List.set_cons_zero]
            refine' wpAnyH_take (i := 3) ?h1x3p ?hsx3p ?hfx3p ?hrx3p ?hQx3p (Or.inl ⟨?hwx3p, ?hyx3p⟩) hS ?restx3p
            case h1x3p => (simp only [List.getElem?_toArray, List.getElem?_cons_succ, List.getElem?_cons_zero]; rfl)
            case hsx3p | hfx3p | hrx3p => kernel_rfl
            case hQx3p => exact fun _ _ _ h => h
            case hwx3p => rfl
            case hyx3p =>
              intro W hW
              go_simp
              try with_reducible rfl
            simp only [Act.put, List.setIfInBounds_toArray, List.set_cons_succ, List.set_cons_zero]
            refine' wpAnyH_take (i := 4) ?h1x4p ?hsx4p ?hfx4p ?hrx4p ?hQx4p (Or.inl ⟨?hwx4p, ?hyx4p⟩) hS ?restx4p
            case h1x4p => (simp only [List.getElem?_toArray, List.getElem?_cons_succ, List.getElem?_cons_zero]; rfl)
            case hsx4p | hfx4p | hrx4p => kernel_rfl
            case hQx4p => exact fun _ _ _ h => h
            case hwx4p => rfl
            case hyx4p =>
              intro W hW
              have dd := (hW.cell (p := ⟨g, 2, none⟩) LG.out).trans CG.out
              go_simp
              try with_reducible rfl
            simp only [Act.put, List.setIfInBounds_toArray, List.set_cons_succ, List.set_cons_zero]
            refine' wpAnyH_take (i := 5) ?h1x5p ?hsx5p ?hfx5p ?hrx5p ?hQx5p (Or.inl ⟨?hwx5p, ?hyx5p⟩) hS ?restx5p
            case h1x5p => (simp only [List.getElem?_toArray, List.getElem?_cons_succ, List.getElem?_cons_zero]; rfl)
            case hsx5p | hfx5p | hrx5p => kernel_rfl
            case hQx5p => exact fun _ _ _ h => h
            case hwx5p => rfl
            case hyx5p =>
              intro W hW
              go_simp
              try with_reducible rfl
            simp only [Act.put, List.setIfInBounds_toArray, List.set_cons_succ, List.set_cons_zero]
            refine' wpAnyH_take (i := 6) ?h1x6p ?hsx6p ?hfx6p ?hrx6p ?hQx6p (Or.inl ⟨?hwx6p, ?hyx6p⟩) hS ?restx6p
            case h1x6p => (simp only [List.getElem?_toArray, List.getElem?_cons_succ, List.getElem?_cons_zero]; rfl)
            case hsx6p | hfx6p | hrx6p => kernel_rfl
            case hQx6p => exact fun _ _ _ h => h
            case hwx6p => rfl
            case hyx6p =>
              intro W hW
              go_simp
              try with_reducible rfl
            simp only [Act.put, List.setIfInBounds_toArray, List.set_cons_succ, List.set_cons_zero]
            refine' wpAnyH_take (i := 7) ?h1x7p ?hsx7p ?hfx7p ?hrx7p ?hQx7p (Or.inl ⟨?hwx7p, ?hyx7p⟩) hS ?restx7p
            case h1x7p => (simp only [List.getElem?_toArray, List.getElem?_cons_succ, List.getElem?_cons_zero]; rfl)
            case hsx7p | hfx7p | hrx7p => kernel_rfl
            case hQx7p => exact fun _ _ _ h => h
            case hwx7p => rfl
            case hyx7p =>
              intro W hW
              go_simp
              try with_reducible rfl
            simp only [Act.put, List.setIfInBounds_toArray, List.set_cons_succ, List.set_cons_zero]
            refine' wpAnyH_take (i := 8) ?h1x8p ?hsx8p ?hfx8p ?hrx8p ?hQx8p (Or.inl ⟨?hwx8p, ?hyx8p⟩) hS ?restx8p
            case h1x8p => (simp only [List.getElem?_toArray, List.getElem?_cons_succ, List.getElem?_cons_zero]; rfl)
            case hsx8p | hfx8p | hrx8p => kernel_rfl
            case hQx8p => exact fun _ _ _ h => h
            case hwx8p => rfl
            case hyx8p =>
              intro W hW
              have dd := (hW.cell (p := ⟨bb, oo + n, none⟩) LBB.out).trans CX.out
              go_simp
              try with_reducible rfl
            simp only [Act.put, List.setIfInBounds_toArray, List.set_cons_succ, List.set_cons_zero]
            refine' wpAnyH_take (i := 9) ?h1x9p ?hsx9p ?hfx9p ?hrx9p ?hQx9p (Or.inl ⟨?hwx9p, ?hyx9p⟩) hS ?restx9p
            case h1x9p => (simp only [List.getElem?_toArray, List.getElem?_cons_succ, List.getElem?_cons_zero]; rfl)
            case hsx9p | hfx9p | hrx9p => kernel_rfl
            case hQx9p => exact fun _ _ _ h => h
            case hwx9p => rfl
            case hyx9p =>
              intro W hW
              go_simp
              try with_reducible rfl
            simp only [Act.put, List.setIfInBounds_toArray, List.set_cons_succ, List.set_cons_zero]
            refine' wpAnyH_take (i := 10) ?h1x10p ?hsx10p ?hfx10p ?hrx10p ?hQx10p (Or.inl ⟨?hwx10p, ?hyx10p⟩) hS ?restx10p
            case h1x10p => (simp only [List.getElem?_toArray, List.getElem?_cons_succ, List.getElem?_cons_zero]; rfl)
            case hsx10p | hfx10p | hrx10p => kernel_rfl
            case hQx10p => exact fun _ _ _ h => h
            case hwx10p => rfl
            case hyx10p =>
              intro W hW
              have dd := (hW.cell (p := ⟨bz, oz + ee, none⟩) LBZ.out).trans CY.out
              go_simp
              try with_reducible rfl
            simp only [Act.put, List.setIfInBounds_toArray, List.set_cons_succ, List.set_cons_zero]
            refine wpAnyH_ready (rs := [11]) (by kernel_rfl) (by simp) ?_
            refine' AllReadyH.cons ?hoc11p (fun K hK => ?stc11p) AllReadyH.nil
            case hoc11p => (simp only [List.getElem?_toArray, List.getElem?_cons_succ, List.getElem?_cons_zero]; rfl)
            go_simp
            refine hK.out _ _ (hS.alloc hS.size _) (fun hHeld => ?_)
            clear hK K
            try simp only [Act.put, List.setIfInBounds_toArray, List.set_cons_succ, List.set_cons_zero]
            clear hS
            have hS := hHeld
            clear hHeld
            refine wpAnyH_ready (rs := [12]) (by kernel_rfl) (by simp) ?_
            refine' AllReadyH.cons ?hoc12p (fun K hK => ?stc12p) AllReadyH.nil
            case hoc12p => (simp only [List.getElem?_toArray, List.getElem?_cons_succ, List.getElem?_cons_zero]; rfl)
            refine step_app rfl _ _ rfl rfl rfl rfl HR.out ?_
            refine hK.out _ _ HB2.out (fun hHeld => ?_)
            clear hK K
            try simp only [Act.put, List.setIfInBounds_toArray, List.set_cons_succ, List.set_cons_zero]
            clear hS
            have hS := hHeld
            clear hHeld
            refine' wpAnyH_take (i := 13) ?h1x13p ?hsx13p ?hfx13p ?hrx13p ?hQx13p (Or.inl ⟨?hwx13p, ?hyx13p⟩) hS ?restx13p
            case h1x13p => (simp only [List.getElem?_toArray, List.getElem?_cons_succ, List.getElem?_cons_zero]; rfl)
            case hsx13p | hfx13p | hrx13p => kernel_rfl
            case hQx13p => exact fun _ _ _ h => h
            case hwx13p => rfl
            case hyx13p =>
              intro W hW
              go_simp
              try with_reducible rfl
            simp only [Act.put, List.setIfInBounds_toArray, List.set_cons_succ, List.set_cons_zero]
            refine wpAnyH_done (by kernel_rfl) ?_ _
            go_wp2_with fail
            go_roundw
            case rel => exact ⟨n + 1, q1, c1, by omega, by go_num, rfl, HO1.out, HB2.out⟩
            case measure => simp [intOf]; omega
          · obtain rfl : n = 16 := by omega
            have HO : Hid (WI 0 wr (.slice q 16 c) (bkn (rkey key) b (k + 1))) := by rw [SN2.out]; exact wq.own_wi ho
            have HB := Lib.hid (D3.out.trans (hb.mono D3.out.size))
            clear ho hb hn hln
            go_wp2_with fail
            go_roundw
            case rel =>
              have hi := HI.out
              exact ⟨k + 1, i - 1, q, c, by omega, by congr 1; omega, rfl, HO.out, HB.out⟩
            case measure => simp [intOf]; omega
      · have hq : (i : Int) < 14 := by omega
        have SN2 : Hid (bkn (rkey key) b (k + 1) = sb kxs (mv 3 (mx 14 11 13 9 J))) := by
          show _ = _
          rw [SN.out, show decide (k = 0) = false by simpa using hl]; rfl
        clear hl hi SN hlt
        go_wp2_with fail
        have hn := heap_alloc_new w4 (.cells #[.int .u8 14, .int .u8 11, .int .u8 13, .int .u8 9] 5)
        have b5 : Below w4.heap.size w4 (w4.alloc (.cells #[.int .u8 14, .int .u8 11, .int .u8 13, .int .u8 9] 5)) := (Below.refl _ _).alloc (Nat.le_refl _) _
        have f5 : Sees (w4.alloc (.cells #[.int .u8 14, .int .u8 11, .int .u8 13, .int .u8 9] 5)) (.slice (some ⟨w4.heap.size, 0, none⟩) 4 4) [14, 11, 13, 9] := sees_row _ _ [14, 11, 13, 9] (fun z hz => by simp at hz; omega) (by simp [maxLen]) hn 4 rfl
        have S4b := Lib.hid (S4.out.below b5)
        have B4b := Lib.hid (B4.out.trans (b5.mono B4.out.size))
        refine (spCols 14 11 13 9 (by omega) (by omega) (by omega) (by omega) JB.out S4b.out f5).mono ?_
        rintro e w5 ⟨x5, c5, rfl, hs5, hb5⟩
        have S5 := Lib.hid hs5
        have B5 := Lib.hid (B4b.out.trans (hb5.mono B4b.out.size))
        clear hs5 hb5 S4 B4 S4b B4b f5 b5 hn
        generalize mx 14 11 13 9 J = Y at *
        go_wp2_with fail
        refine (spRows MX.out S5.out).mono ?_
        rintro e v1 ⟨y1, d1, rfl, hs1, hb1⟩
        have V1 := Lib.hid hs1
        have D1 := Lib.hid (B5.out.trans (hb1.mono B5.out.size))
        clear hs1 hb1 S5 B5
        go_wp2_with fail
        refine (spRows (mv_bts 1 MX.out) V1.out).mono ?_
        rintro e v2 ⟨y2, d2, rfl, hs2, hb2⟩
        have V2 := Lib.hid hs2
        have D2 := Lib.hid (D1.out.trans (hb2.mono D1.out.size))
        clear hs2 hb2 V1 D1
        go_wp2_with fail
        refine (spRows (mv_bts 1 (mv_bts 1 MX.out)) V2.out).mono ?_
        rintro e v3 ⟨y3, d3, rfl, hs3, hb3⟩
        rw [mv_111] at hs3
        have D3 := Lib.hid (D2.out.trans (hb3.mono D2.out.size))
        have XX : Hid (Bts 16 (mv 3 Y)) := mv_bts 3 MX.out
        obtain ⟨bb, oo, rfl, _, _, _, hcc⟩ := hs3.1.at16 (by rw [XX.out.1]; omega)
        have CC : Hid (∀ i, i < 16 → v3.cell? ⟨bb, oo + i, none⟩ = some (.int .u8 (at_ (mv 3 Y) i : Nat))) := fun i hi => hcc i (by rw [XX.out.1]; exact hi)
        have LBB : Hid (bb < v3.heap.size) := World.block_lt_of_cell? v3 _ (CC.out 0 (by omega))
        obtain ⟨bw, cw, y, cy, z, cz, hg, _, _, hz⟩ := HR.out.below D3.out
        have CG : Hid (v3.cell? ⟨g, 2, none⟩ = some (.slice z 256 cz)) := cell_of_row _ _ 2 _ _ _ hg
        have LG := Lib.hid (blk_lt hg)
        obtain ⟨bz, oz, rfl, _, _, _, hzc⟩ := hz.at16 (by rw [kxs_len]; omega)
        have CZ : Hid (∀ i, i < 256 → v3.cell? ⟨bz, oz + i, none⟩ = some (.int .u8 (at_ kxs i : Nat))) := fun i hi => hzc i (by rw [kxs_len]; exact hi)
        have LBZ : Hid (bz < v3.heap.size) := World.block_lt_of_cell? v3 _ (CZ.out 0 (by omega))
        generalize mv 3 Y = M at *
        rename_i p1 p2 p3 p4 p5 p6 p7 p8
        clear p1 p2 p3 p4 p5 p6 p7 p8
        clear hs3 hb3 hcc hzc hg hz V2 D2
        go_wp2_with fail
        go_loopw [6, 7] (fun v vi wr => ∃ (n : Nat) (q : Option Addr) (c : Nat), n ≤ 16 ∧ vi = .int .i64 n ∧ v = .slice q n c ∧ Own wr v3.heap.size (.slice q n c) (tab n (fun i => at_ kxs (at_ M i))) ∧ Below v3.heap.size v3 wr) (fun _ vi _ => 16 - (intOf vi).toNat)
        case atStart => exact ⟨0, none, 0, by omega, rfl, rfl, own_nil _ _, Below.refl _ _⟩
        case round =>
          obtain ⟨n, q, c, hn, rfl, rfl, ho, hb⟩ := hrel
          by_cases hln : n < 16
          · have hn16 : (n : Int) < 16 := by omega
            have xl := XX.out.at_lt n
            have CX := Lib.hid (CC.out n hln)
            have CY := Lib.hid (CZ.out _ xl)
            obtain ⟨q1, c1, w1, hrun, ho1, hb1⟩ := ho.drew.push (x := at_ kxs (at_ M n)) (kxs_bts.at_lt _) (by rw [tab_len]; omega) hb.size
            rw [← tab_succ n (fun i => at_ kxs (at_ M i)), tab_len] at ho1
            rw [tab_len] at hrun
            have HO1 := Lib.hid ho1
            have HR := Lib.hid hrun
            have HBB := Lib.hid hb
            have HB2 := Lib.hid (hb.drew.trans hb1)
            clear ho1 hrun hb1 ho hb
            generalize at_ kxs (at_ M n) = zz at *
            generalize at_ M n = ee at *
            have xl' : (ee : Int) < 256 := by omega
            go_wp2_with fail
            refine wp_region_held_drew (S := fun W => Below v3.heap.size v3 W) (by kernel_rfl) HBB.out.drew (fun hS => ?_)
            refine' wpAnyH_take (i := 0) ?h1x0q ?hsx0q ?hfx0q ?hrx0q ?hQx0q (Or.inl ⟨?hwx0q, ?hyx0q⟩) hS ?restx0q
            case h1x0q => (simp only [List.getElem?_toArray, List.getElem?_cons_zero]; rfl)
            case hsx0q | hfx0q | hrx0q => kernel_rfl
            case hQx0q => exact fun _ _ _ h => h
            case hwx0q => rfl
            case hyx0q =>
              intro W hW
              go_simp
              try with_reducible rfl
            simp only [Act.put, List.setIfInBounds_toArray, List.set_cons_succ, List.set_cons_zero]
            refine' wpAnyH_take (i := 1) ?h1x1q ?hsx1q ?hfx1q ?hrx1q ?hQx1q (Or.inl ⟨?hwx1q, ?hyx1q⟩) hS ?restx1q
            case h1x1q => (simp only [List.getElem?_toArray, List.getElem?_cons_succ, List.getElem?_cons_zero]; rfl)
            case hsx1q | hfx1q | hrx1q => kernel_rfl
            case hQx1q => exact fun _ _ _ h => h
            case hwx1q => rfl
            case hyx1q =>
              intro W hW
              go_simp
              try with_reducible rfl
            simp only [Act.put, List.setIfInBounds_toArray, List.set_cons_succ, List.set_cons_zero]
            refine' wpAnyH_take (i := 2) ?h1x2q ?hsx2q ?hfx2q ?hrx2q ?hQx2q (Or.inl ⟨?hwx2q, ?hyx2q⟩) hS ?restx2q
            case h1x2q => (simp only [List.getElem?_toArray, List.getElem?_cons_succ, List.getElem?_cons_zero]; rfl)
            case hsx2q | hfx2q | hrx2q => kernel_rfl
            case hQx2q => exact fun _ _ _ h => h
            case hwx2q => rfl
            case hyx2q =>
              intro W hW
              go_simp
              try with_reducible rfl
            simp only [Act.put, List.setIfInBounds_toArray, List.set_cons_succ, List.set_cons_zero]
            refine' wpAnyH_take (i := 3) ?h1x3q ?hsx3q ?hfx3q ?hrx3q ?hQx3q (Or.inl ⟨?hwx3q, ?hyx3q⟩) hS ?restx3q
            case h1x3q => (simp only [List.getElem?_toArray, List.getElem?_cons_succ, List.getElem?_cons_zero]; rfl)
            case hsx3q | hfx3q | hrx3q => kernel_rfl
            case hQx3q => exact fun _ _ _ h => h
            case hwx3q => rfl
            case hyx3q =>
              intro W hW
              go_simp
              try with_reducible rfl
            simp only [Act.put, List.setIfInBounds_toArray, List.set_cons_succ, List.set_cons_zero]
            refine' wpAnyH_take (i := 4) ?h1x4q ?hsx4q ?hfx4q ?hrx4q ?hQx4q (Or.inl ⟨?hwx4q, ?hyx4q⟩) hS ?restx4q
            case h1x4q => (simp only [List.getElem?_toArray, List.getElem?_cons_succ, List.getElem?_cons_zero]; rfl)
            case hsx4q | hfx4q | hrx4q => kernel_rfl
            case hQx4q => exact fun _ _ _ h => h
            case hwx4q => rfl
            case hyx4q =>
              intro W hW
              have dd := (hW.cell (p := ⟨g, 2, none⟩) LG.out).trans CG.out
              go_simp
              try with_reducible rfl
            simp only [Act.put, List.setIfInBounds_toArray, List.set_cons_succ, List.set_cons_zero]
            refine' wpAnyH_take (i := 5) ?h1x5q ?hsx5q ?hfx5q ?hrx5q ?hQx5q (Or.inl ⟨?hwx5q, ?hyx5q⟩) hS ?restx5q
            case h1x5q => (simp only [List.getElem?_toArray, List.getElem?_cons_succ, List.getElem?_cons_zero]; rfl)
            case hsx5q | hfx5q | hrx5q => kernel_rfl
            case hQx5q => exact fun _ _ _ h => h
            case hwx5q => rfl
            case hyx5q =>
              intro W hW
              go_simp
              try with_reducible rfl
            simp only [Act.put, List.setIfInBounds_toArray, List.set_cons_succ, List.set_cons_zero]
            refine' wpAnyH_take (i := 6) ?h1x6q ?hsx6q ?hfx6q ?hrx6q ?hQx6q (Or.inl ⟨?hwx6q, ?hyx6q⟩) hS ?restx6q
            case h1x6q => (simp only [List.getElem?_toArray, List.getElem?_cons_succ, List.getElem?_cons_zero]; rfl)
            case hsx6q | hfx6q | hrx6q => kernel_rfl
            case hQx6q => exact fun _ _ _ h => h
            case hwx6q => rfl
            case hyx6q =>
              intro W hW
              go_simp
              try with_reducible rfl
            simp only [Act.put, List.setIfInBounds_toArray, List.set_cons_succ, List.set_cons_zero]
            refine' wpAnyH_take (i := 7) ?h1x7q ?hsx7q ?hfx7q ?hrx7q ?hQx7q (Or.inl ⟨?hwx7q, ?hyx7q⟩) hS ?restx7q
            case h1x7q => (simp only [List.getElem?_toArray, List.getElem?_cons_succ, List.getElem?_cons_zero]; rfl)
            case hsx7q | hfx7q | hrx7q => kernel_rfl
            case hQx7q => exact fun _ _ _ h => h
            case hwx7q => rfl
            case hyx7q =>
              intro W hW
              go_simp
              try with_reducible rfl
            simp only [Act.put, List.setIfInBounds_toArray, List.set_cons_succ, List.set_cons_zero]
            refine' wpAnyH_take (i := 8) ?h1x8q ?hsx8q ?hfx8q ?hrx8q ?hQx8q (Or.inl ⟨?hwx8q, ?hyx8q⟩) hS ?restx8q
            case h1x8q => (simp only [List.getElem?_toArray, List.getElem?_cons_succ, List.getElem?_cons_zero]; rfl)
            case hsx8q | hfx8q | hrx8q => kernel_rfl
            case hQx8q => exact fun _ _ _ h => h
            case hwx8q => rfl
            case hyx8q =>
              intro W hW
              have dd := (hW.cell (p := ⟨bb, oo + n, none⟩) LBB.out).trans CX.out
              go_simp
              try with_reducible rfl
            simp only [Act.put, List.setIfInBounds_toArray, List.set_cons_succ, List.set_cons_zero]
            refine' wpAnyH_take (i := 9) ?h1x9q ?hsx9q ?hfx9q ?hrx9q ?hQx9q (Or.inl ⟨?hwx9q, ?hyx9q⟩) hS ?restx9q
            case h1x9q => (simp only [List.getElem?_toArray, List.getElem?_cons_succ, List.getElem?_cons_zero]; rfl)
            case hsx9q | hfx9q | hrx9q => kernel_rfl
            case hQx9q => exact fun _ _ _ h => h
            case hwx9q => rfl
            case hyx9q =>
              intro W hW
              go_simp
              try with_reducible rfl
            simp only [Act.put, List.setIfInBounds_toArray, List.set_cons_succ, List.set_cons_zero]
            refine' wpAnyH_take (i := 10) ?h1x10q ?hsx10q ?hfx10q ?hrx10q ?hQx10q (Or.inl ⟨?hwx10q, ?hyx10q⟩) hS ?restx10q
            case h1x10q => (simp only [List.getElem?_toArray, List.getElem?_cons_succ, List.getElem?_cons_zero]; rfl)
            case hsx10q | hfx10q | hrx10q => kernel_rfl
            case hQx10q => exact fun _ _ _ h => h
            case hwx10q => rfl
            case hyx10q =>
              intro W hW
              have dd := (hW.cell (p := ⟨bz, oz + ee, none⟩) LBZ.out).trans CY.out
              go_simp
              try with_reducible rfl
            simp only [Act.put, List.setIfInBounds_toArray, List.set_cons_succ, List.set_cons_zero]
            refine wpAnyH_ready (rs := [11]) (by kernel_rfl) (by simp) ?_
            refine' AllReadyH.cons ?hoc11q (fun K hK => ?stc11q) AllReadyH.nil
            case hoc11q => (simp only [List.getElem?_toArray, List.getElem?_cons_succ, List.getElem?_cons_zero]; rfl)
            go_simp
            refine hK.out _ _ (hS.alloc hS.size _) (fun hHeld => ?_)
            clear hK K
            try simp only [Act.put, List.setIfInBounds_toArray, List.set_cons_succ, List.set_cons_zero]
            clear hS
            have hS := hHeld
            clear hHeld
            refine wpAnyH_ready (rs := [12]) (by kernel_rfl) (by simp) ?_
            refine' AllReadyH.cons ?hoc12q (fun K hK => ?stc12q) AllReadyH.nil
            case hoc12q => (simp only [List.getElem?_toArray, List.getElem?_cons_succ, List.getElem?_cons_zero]; rfl)
            refine step_app rfl _ _ rfl rfl rfl rfl HR.out ?_
            refine hK.out _ _ HB2.out (fun hHeld => ?_)
            clear hK K
            try simp only [Act.put, List.setIfInBounds_toArray, List.set_cons_succ, List.set_cons_zero]
            clear hS
            have hS := hHeld
            clear hHeld
            refine' wpAnyH_take (i := 13) ?h1x13q ?hsx13q ?hfx13q ?hrx13q ?hQx13q (Or.inl ⟨?hwx13q, ?hyx13q⟩) hS ?restx13q
            case h1x13q => (simp only [List.getElem?_toArray, List.getElem?_cons_succ, List.getElem?_cons_zero]; rfl)
            case hsx13q | hfx13q | hrx13q => kernel_rfl
            case hQx13q => exact fun _ _ _ h => h
            case hwx13q => rfl
            case hyx13q =>
              intro W hW
              go_simp
              try with_reducible rfl
            simp only [Act.put, List.setIfInBounds_toArray, List.set_cons_succ, List.set_cons_zero]
            refine wpAnyH_done (by kernel_rfl) ?_ _
            go_wp2_with fail
            go_roundw
            case rel => exact ⟨n + 1, q1, c1, by omega, by go_num, rfl, HO1.out, HB2.out⟩
            case measure => simp [intOf]; omega
          · obtain rfl : n = 16 := by omega
            have HO : Hid (WI 0 wr (.slice q 16 c) (bkn (rkey key) b (k + 1))) := by rw [SN2.out]; exact wq.own_wi ho
            have HB := Lib.hid (D3.out.trans (hb.mono D3.out.size))
            clear ho hb hn hln
            go_wp2_with fail
            go_roundw
            case rel =>
              have hi := HI.out
              exact ⟨k + 1, i - 1, q, c, by omega, by congr 1; omega, rfl, HO.out, HB.out⟩
            case measure => simp [intOf]; omega
    · obtain rfl : i = 0 := by omega
      obtain rfl : k = 14 := by omega
      have SB := Lib.hid (TB.out 14)
      have K0 := Lib.hid (KB.out 0)
      have BN : Hid (back (rkey key) b = jn (bkn (rkey key) b 14) (rkey key 0)) := rfl
      have HS := Lib.hid hs
      have HB := Lib.hid hb
      clear hs hb
      go_wp2_with fail
      refine (R0.out _ (HR.out.below HB.out)).mono ?_
      rintro e w3 ⟨x3, c3, rfl, hs3, hb3⟩
      have S3 := Lib.hid hs3
      have SS3 := Lib.hid (HS.out.below hb3)
      have B3 := Lib.hid (HB.out.trans (hb3.mono HB.out.size))
      clear hs3 hb3 HS HB
      go_wp2_with fail
      refine (spXor SB.out K0.out SS3.out S3.out).mono ?_
      rintro e w4 ⟨x4, c4, rfl, hs4, hb4⟩
      have S4 := Lib.hid hs4
      have B4 := Lib.hid (B3.out.trans (hb4.mono B3.out.size))
      clear hs4 hb4 S3 SS3 B3
      go_wp2_with fail
      go_ret
      exact ⟨x4, c4, rfl, by rw [BN.out]; exact S4.out, B4.out⟩
end Go.Proofs.YtpkeofioobmmoaaGreatDoor.ae.wq
