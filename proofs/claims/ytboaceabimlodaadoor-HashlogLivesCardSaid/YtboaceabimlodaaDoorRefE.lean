/-
  Contracts of the document's own functions of package sha: the sum of a text; texts, one behind the other; are texts too much? Condition: the texts are of bounded length.
-/
import Derived.Test.YtboaceabimlodaaDoorRefD
namespace Go.Proofs.YtboaceabimlodaaDoor
open Go.RowKit
theorem chunk64 (s : HSt) (hB : s.B.length = 64) (h0 : s.n = 0) (ys : List Int) (hl : ys.length = 64) : puts s ys = ⟨comp s.H ys, ys, 0⟩ := by
  have h := puts_chunk ys s hB (by omega) (fun e => by rw [e] at hl; simp at hl) (by omega)
  have e : spl s.B s.n ys = ys := by rw [h0]; unfold spl; rw [List.take_zero, List.drop_eq_nil_of_le (by omega)]; simp
  rw [if_pos (by omega), e] at h
  exact h
/-- The hash behind k blocks. -/
def hk (all : List Int) (k : Nat) : HSt := puts h0 (all.take (64 * k))
theorem hk_next (all : List Int) (k : Nat) : hk all (k + 1) = puts (hk all k) ((all.drop (64 * k)).take 64) := by
  unfold hk
  rw [← puts_append, Nat.mul_succ, List.take_add]
theorem hk_ok (all : List Int) (m : Nat) (hl : all.length = 64 * m) : ∀ k, k ≤ m → (hk all k).n = 0 ∧ (hk all k).B.length = 64
  | 0, _ => by unfold hk; rw [Nat.mul_zero, List.take_zero]; exact ⟨rfl, by simp [puts, h0]⟩
  | k + 1, h => by
    obtain ⟨a, b⟩ := hk_ok all m hl k (by omega)
    have hy : ((all.drop (64 * k)).take 64).length = 64 := by simp; omega
    rw [hk_next, chunk64 _ b a _ hy]
    exact ⟨rfl, hy⟩
theorem hk_step (all : List Int) (m : Nat) (hl : all.length = 64 * m) (k : Nat) (h : k < m) : (hk all (k + 1)).H = comp (hk all k).H ((all.drop (64 * k)).take 64) := by
  obtain ⟨a, b⟩ := hk_ok all m hl k (by omega)
  rw [hk_next, chunk64 _ b a _ (by simp; omega)]
theorem hk_end (xs : List Int) (m : Nat) (hl : (fillD xs).length = 64 * m) : (((hk (fillD xs) m).H).map (be 4)).flatten = sha xs := by
  unfold hk
  rw [List.take_of_length_le (by omega)]
  unfold fillD sha sumOf
  rw [puts_append]
theorem fillD_len (xs : List Int) : ∃ m, (fillD xs).length = 64 * m ∧ 0 < m ∧ 64 * m ≤ xs.length + 100 := by
  refine ⟨(fillD xs).length / 64, ?_, ?_, ?_⟩ <;> (rw [fillD_eq]; simp [be_len]; omega)
theorem fillD_byt {xs : List Int} (h : Byt xs) : Byt (fillD xs) := h.append (tail_byt _)
theorem comp_fin (H B : List Int) : fin H (sts KK (wl B 64) (toSt H) 64).list 8 = comp H B := rfl
theorem hk_len (all : List Int) (hb : Byt all) (k : Nat) : (hk all k).H.length = 8 ∧ U32 (hk all k).H := by
  have := puts_ok (all.take (64 * k)) h0 h0_ok (hb.take _)
  exact ⟨this.1, this.2.1⟩
theorem Own.cells {w : World} {base : Nat} {v : Value} {xs : List Int} (h : Own w base v xs) (h0 : 0 < xs.length) :
    ∃ g cap, v = .slice (some ⟨g, 0, none⟩) xs.length cap ∧ base ≤ g ∧ xs.length ≤ cap ∧ cap ≤ maxLen ∧ ∀ i, i < xs.length → w.cell? ⟨g, i, none⟩ = some (.int .u8 (nth xs i)) := by
  obtain ⟨hb, hl, ⟨rfl, e0⟩ | ⟨g, cap, cur, rfl, hbg, hg, hn, hm, hs, ht⟩⟩ := h
  · omega
  · refine ⟨g, cap, rfl, hbg, hn, hm, fun i hi => ?_⟩
    rw [cell_of_row _ _ _ _ _ _ hg]
    have h1 : (xs.map (Value.int .u8))[i]? = some (.int .u8 (nth xs i)) := by simp [nth, List.getD, hi]
    rw [← ht, List.getElem?_take_of_lt (by omega)] at h1
    simpa using h1
set_option maxRecDepth 100000 in
set_option maxHeartbeats 4000000 in
theorem sumD (v : Value) (xs : List Int) (hl : xs.length ≤ 1000000) (w : World) (h : Sees w v xs) : Calls Tryd.prog 20 #[v] w (OwnP w (sha xs)) := by
  obtain ⟨m, hm, hm0, hml⟩ := fillD_len xs
  have hxb := h.1
  have hab : Byt (fillD xs) := fillD_byt hxb
  have FC := Lib.hid (filledD v xs hl w h)
  have HE : Hid ((((hk (fillD xs) m).H).map (be 4)).flatten = sha xs) := hk_end xs m hm
  have HST : Hid (∀ k, k < m → (hk (fillD xs) (k + 1)).H = comp (hk (fillD xs) k).H (((fillD xs).drop (64 * k)).take 64)) := hk_step _ m hm
  have HLE : Hid (∀ k, (hk (fillD xs) k).H.length = 8 ∧ U32 (hk (fillD xs) k).H) := hk_len _ hab
  have H0 : Hid ((hk (fillD xs) 0).H = SQ) := by show _ = _; unfold hk; rw [Nat.mul_zero, List.take_zero]; rfl
  have SL := Lib.hid (sha_len xs hxb)
  have HAB := Lib.hid hab
  have HM := Lib.hid hm
  have hmb : 64 * m ≤ 1000100 := by omega
  generalize fillD xs = all at *
  generalize sha xs = sm at *
  clear hm hxb hab hl h hml
  go_enter Tryd.func20, Tryd.ntmps20
  go_wp2_with fail
  refine FC.out.mono ?_
  rintro e w1 ⟨x1, c1, rfl, ho1, hb1⟩
  rw [HM.out] at ho1 ⊢
  have HO1 := Lib.hid ho1
  have HB1 := Lib.hid hb1
  clear ho1 hb1
  go_wp2_with fail
  refine (eightD w1).mono ?_
  rintro e w2 ⟨x2, c2, rfl, ho2, hb2⟩
  have HO1 := Lib.hid (HO1.out.below hb2)
  have HB2 : Hid (Below w.heap.size w w2) := HB1.out.trans (hb2.mono HB1.out.size)
  have HO2 := Lib.hid (ho2.base HB1.out.size)
  clear ho2 hb2 HB1
  rw [show SQ.length = 8 from rfl] at HO2 ⊢
  go_wp2_with fail
  refine (sixtyD w2).mono ?_
  rintro e w3 ⟨x3, c3, rfl, ho3, hb3⟩
  have HO1 := Lib.hid (HO1.out.below hb3)
  have HO2 := Lib.hid (HO2.out.below hb3)
  have HB3 : Hid (Below w.heap.size w w3) := HB2.out.trans (hb3.mono HB2.out.size)
  have hk64 : KK.length = 64 := by decide
  rw [hk64] at ho3 ⊢
  obtain ⟨gk, ck, hvk, _, _, _, hck⟩ := ho3.cells (by rw [hk64]; omega)
  rw [hk64] at hvk hck
  simp only [Value.slice.injEq] at hvk
  obtain ⟨rfl, _, rfl⟩ := hvk
  obtain ⟨ga, ca, hva, _, hcap, hcam, hca⟩ := HO1.out.cells (by rw [HM.out]; omega)
  rw [HM.out] at hva hca hcap
  simp only [Value.slice.injEq] at hva
  obtain ⟨rfl, _, rfl⟩ := hva
  have HCK := Lib.hid hck
  have HCA := Lib.hid hca
  have LK := Lib.hid (World.block_lt_of_cell? w3 _ (hck 0 (by omega)))
  have LA := Lib.hid (World.block_lt_of_cell? w3 _ (hca 0 (by omega)))
  have HCAP := Lib.hid (And.intro hcap hcam)
  clear ho3 hb3 HB2 hck hca hcap hcam hk64 HO1
  obtain ⟨L, hL⟩ : ∃ L, L = 64 * m := ⟨_, rfl⟩
  rw [← hL]
  have HL := Lib.hid hL
  clear hL
  go_wp2_with fail
  go_loopw [4, 6] (fun vh vi wr => ∃ (k i : Nat) (q : Option Addr) (c : Nat), k ≤ m ∧ i = 64 * k ∧ vi = .int .i64 i ∧ vh = .slice q 8 c ∧ OwnK .u32 56 wr w.heap.size (.slice q 8 c) (hk all k).H ∧ Below w3.heap.size w3 wr ∧ Below w.heap.size w wr) (fun _ vi _ => 64 * m - (intOf vi).toNat)
  case atStart => exact ⟨0, 0, x2, c2, by omega, rfl, rfl, rfl, by rw [H0.out]; exact HO2.out, Below.refl _ _, HB3.out⟩
  case round =>
    obtain ⟨k, i, q, c, hk', hi, rfl, rfl, ho, hb3, hb⟩ := hrel
    have HLk := HLE.out k
    obtain ⟨gx, cx, hvx, _, _, _, hcx⟩ := ho.cells (by rw [HLk.1]; omega)
    rw [HLk.1] at hvx hcx
    simp only [Value.slice.injEq] at hvx
    obtain ⟨rfl, _, rfl⟩ := hvx
    have HCX := Lib.hid hcx
    have LX := Lib.hid (World.block_lt_of_cell? wr _ (hcx 0 (by omega)))
    have HI := Lib.hid hi
    have HB := Lib.hid hb
    have HB3' := Lib.hid hb3
    by_cases hlt : k < m
    · have hiL : i < L := by rw [HL.out]; omega
      have hi64 : i + 64 ≤ L := by rw [HL.out]; omega
      have hLb : L ≤ 1000100 := by rw [HL.out]; omega
      have hsl : ∀ W, (Instr.slice 23 (.slice (some ⟨ga, 0, none⟩) L c1) (some (.int .i64 (i : Int))) (some (.int .i64 ((i : Int) + 64))) none).run Tryd.prog W = .ok (.slice (some ⟨ga, i, none⟩) 64 (c1 - i)) W := fun W => by
        have := sl_lh ga 0 L c1 i (i + 64) (i : Int) ((i : Int) + 64) rfl (by omega) (by omega) (by have := HCAP.out.1; rw [← HL.out] at this; omega) (by have := HCAP.out.1; rw [← HL.out] at this; omega) W
        rw [show i + 64 - i = 64 by omega, Nat.zero_add] at this; exact this
      obtain ⟨B, hBdef⟩ : ∃ B, B = (all.drop i).take 64 := ⟨_, rfl⟩
      have hBl : B.length = 64 := by rw [hBdef]; simp [HM.out]; omega
      have hBb : Byt B := by rw [hBdef]; exact (HAB.out.drop _).take _
      have hBc : ∀ j, j < 64 → wr.cell? ⟨ga, i + j, none⟩ = some (.int .u8 (nth B j)) := fun j hj => by
        rw [hb3.cell (p := ⟨ga, i + j, none⟩) LA.out, HCA.out (i + j) (by omega), hBdef]
        simp [nth, List.getD, List.getElem?_take_of_lt hj, List.getElem?_drop]
      have SP := Lib.hid (spread ga i (c1 - i) B hBl hBb (by have := HCAP.out.1; omega) (by have := HCAP.out.2; omega) wr hBc)
      have HN : Hid ((hk all (k + 1)).H = comp (hk all k).H B) := by show _ = _; rw [HST.out k hlt, hBdef, hi]
      have UB := Lib.hid (wl_u32 B hBl hBb 64)
      have hw64 := Lib.hid (wl_len B 64)
      clear hi hb3 hb ho hcx HLk hBl hBb hBc hBdef
      go_wp2_with fail
      refine SP.out.mono ?_
      rintro e w4 ⟨x4, c4, rfl, ho4, hb4⟩
      rw [hw64.out] at ho4 ⊢
      obtain ⟨gw, cw, hvw, _, _, _, hcw⟩ := ho4.cells (by rw [hw64.out]; omega)
      rw [hw64.out] at hvw hcw
      simp only [Value.slice.injEq] at hvw
      obtain ⟨rfl, _, rfl⟩ := hvw
      have TK := Lib.hid (takeD (hk all k).H (wl B 64) KK gx c gw c4 gk c3 (HLE.out k).2 UB.out kk_u32 w4 (fun j hj => by rw [hb4.cell (p := ⟨gx, j, none⟩) LX.out]; exact HCX.out j hj) hcw
        (fun j hj => by rw [hb4.cell (p := ⟨gk, j, none⟩) (Nat.lt_of_lt_of_le LK.out HB3'.out.size), HB3'.out.cell (p := ⟨gk, j, none⟩) LK.out]; exact HCK.out j hj))
      rw [comp_fin, ← HN.out] at TK
      have HB4 := Lib.hid (HB.out.trans (hb4.mono HB.out.size))
      have HB34 := Lib.hid (HB3'.out.trans (hb4.mono HB3'.out.size))
      clear ho4 hb4 hcw hsl
      go_wp2_with fail
      refine TK.out.mono ?_
      rintro e w5 ⟨x5, c5, rfl, ho5, hb5⟩
      have hl8 := (HLE.out (k + 1)).1
      rw [hl8] at ho5 ⊢
      have HO5 := Lib.hid (ho5.base HB4.out.size)
      have HB5 := Lib.hid (HB4.out.trans (hb5.mono HB4.out.size))
      have HB35 := Lib.hid (HB34.out.trans (hb5.mono HB34.out.size))
      clear ho5 hb5 hl8
      go_wp2_with fail
      go_roundw
      case rel => exact ⟨k + 1, i + 64, x5, c5, by omega, by rw [HI.out]; omega, by go_num, rfl, HO5.out, HB35.out, HB5.out⟩
      case measure => have := HI.out; simp [intOf]; omega
    · obtain rfl : k = m := by omega
      have hiL : ¬ i < L := by rw [HL.out]; omega
      obtain ⟨H, hH⟩ : ∃ H, H = (hk all k).H := ⟨_, rfl⟩
      have hH8 : H.length = 8 := by rw [hH]; exact HLk.1
      have hHu : U32 H := by rw [hH]; exact HLk.2
      rw [← hH] at hcx
      have HCX := Lib.hid hcx
      have HEE : Hid ((H.map (be 4)).flatten = sm) := by show _ = _; rw [hH]; exact HE.out
      have HU := Lib.hid hHu
      have HLEN := Lib.hid hH8
      clear hi hb3 hb ho hcx HLk hH hH8 hHu
      go_wp2_with fail
      obtain ⟨wo, rfl⟩ : ∃ wo : World, wo = wr := ⟨_, rfl⟩
      go_loopw [7, 8] (fun v vi wr => ∃ (j : Nat) (q : Option Addr) (c : Nat), j ≤ 8 ∧ vi = .int .i64 j ∧ v = .slice q (4 * j) c ∧ Own wr wo.heap.size (.slice q (4 * j) c) (((H.take j).map (be 4)).flatten) ∧ Below wo.heap.size wo wr) (fun _ vi _ => 8 - (intOf vi).toNat)
      case atStart => exact ⟨0, none, 0, by omega, rfl, rfl, own_nil _ _, Below.refl _ _⟩
      case round =>
        obtain ⟨j, q, c, hj, rfl, rfl, ho, hb⟩ := hrel
        have hfl : (((H.take j).map (be 4)).flatten).length = 4 * j := by rw [flat_len, List.length_take, HLEN.out]; omega
        by_cases hlt2 : j < 8
        · have hcell := (hb.cell (p := ⟨gx, j, none⟩) LX.out).trans (HCX.out j hlt2)
          have hu := HU.out.nth j
          have hnx : ((H.take (j + 1)).map (be 4)).flatten = ((H.take j).map (be 4)).flatten ++ be 4 (nth H j) := by
            rw [take_snoc H j (by rw [HLEN.out]; exact hlt2)]; simp
          obtain ⟨u0, u1⟩ := hu
          have HNX := Lib.hid hnx
          have HFL := Lib.hid hfl
          have HO := Lib.hid ho
          have HBq := Lib.hid hb
          clear hnx hfl ho hb
          generalize nth H j = y at *
          go_wp2_with fail
          refine (bytes4 y u0 (by omega) wr).mono ?_
          rintro e w4 ⟨x4, c4, rfl, ho4, hb4⟩
          obtain ⟨x5, c5, w5, hr5, ho5, hg5, hb5⟩ := app (HO.out.below hb4) ho4.sees (by rw [HFL.out, be_len]; omega) (by have := HBq.out.size; have := hb4.size; omega)
          rw [HFL.out, be_len] at hr5 ho5
          rw [be_len, ← HNX.out] at *
          have HR5 := Lib.hid hr5
          have HO5 := Lib.hid ho5
          have HB5 := Lib.hid ((HBq.out.trans (hb4.mono HBq.out.size)).trans hb5)
          clear ho4 hb4 hr5 ho5 hg5 hb5 HO HBq
          go_wp2_with (at_builtin; refine wpList_app rfl (.tmp 32) (.tmp 38) rfl rfl rfl rfl HR5.out ?_)
          go_roundw
          case rel => exact ⟨j + 1, x5, c5, by omega, by go_num, rfl, HO5.out, HB5.out⟩
          case measure => simp [intOf]; omega
        · obtain rfl : j = 8 := by omega
          rw [List.take_of_length_le (by rw [HLEN.out]; omega), HEE.out] at ho
          have HO := Lib.hid (ho.lower HB.out.size)
          have HBq := Lib.hid (HB.out.trans (hb.mono HB.out.size))
          clear ho hb hfl
          go_wp2_with fail
          go_ret
          unfold OwnP
          rw [SL.out]
          exact ⟨_, _, rfl, HO.out, HBq.out⟩
end Go.Proofs.YtboaceabimlodaaDoor
