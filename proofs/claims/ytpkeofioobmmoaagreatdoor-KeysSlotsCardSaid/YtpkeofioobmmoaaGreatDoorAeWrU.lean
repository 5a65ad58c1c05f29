/-
  The document's wrap: Wrap and Unwrap of words. Condition: the numbers are bytes.
-/
import Derived.Test.YtpkeofioobmmoaaGreatDoorAeWrS
namespace Go.Proofs.YtpkeofioobmmoaaGreatDoor.ae
open Go.RowKit
/-- The document's words in memory: one in front, n others in the row R. -/
def DW (R n : Nat) (W : World) (q : Option Addr) (c : Nat) (xs : List Value) (a : List Nat) (r : List (List Nat)) : Prop :=
  WS n a r ∧ WI 0 W (.slice q 8 c) a ∧ RWs W R xs ∧ xs.length = n ∧ ∀ (i : Nat) (y : List Nat), r[i]? = some y → ∃ (x : Option Addr) (c' : Nat), xs[i]? = some (Value.slice x 8 c') ∧ WI 0 W (Value.slice x 8 c') y
set_option maxRecDepth 100000 in
theorem DW.below {R n : Nat} {W W' : World} {q : Option Addr} {c : Nat} {xs : List Value} {a : List Nat} {r : List (List Nat)} (h : DW R n W q c xs a r) (hb : Below W.heap.size W W') : DW R n W' q c xs a r := by
  obtain ⟨h1, h2, h3, h4, h5⟩ := h
  refine ⟨h1, h2.below hb, h3.below hb, h4, fun i y hy => ?_⟩
  obtain ⟨x, c', e1, e2⟩ := h5 i y hy
  exact ⟨x, c', e1, e2.below hb⟩
set_option maxRecDepth 100000 in
theorem DW.cell {R n : Nat} {W : World} {q : Option Addr} {c : Nat} {xs : List Value} {a : List Nat} {r : List (List Nat)} (h : DW R n W q c xs a r) {i : Nat} {y : List Nat} (hy : r[i]? = some y) : ∃ u, W.cell? ⟨R, i, none⟩ = some u ∧ Sees W u y := by
  obtain ⟨h1, h2, h3, h4, h5⟩ := h
  obtain ⟨x, c', e1, e2⟩ := h5 i y hy
  exact ⟨_, h3.cell e1, e2.1⟩
set_option maxRecDepth 100000 in
theorem DW.step {R n : Nat} {W : World} {q : Option Addr} {c : Nat} {xs : List Value} {a : List Nat} {r : List (List Nat)} (h : DW R n W q c xs a r) {m : Nat} (hm : m < n) {q' : Option Addr} {c' : Nat} {a' : List Nat}
    (ha : WI 0 W (.slice q' 8 c') a') {x : Option Addr} {c2 : Nat} {y : List Nat} (hy : WI 0 W (.slice x 8 c2) y) (hw : WS n a' (r.set m y)) :
    DW R n (W.setCell ⟨R, m, none⟩ (.slice x 8 c2)) q' c' (xs.set m (.slice x 8 c2)) a' (r.set m y) := by
  obtain ⟨h1, h2, h3, h4, h5⟩ := h
  have kp : ∀ v l, WI 0 W v l → WI 0 (W.setCell ⟨R, m, none⟩ (.slice x 8 c2)) v l := fun v l hw => by
    obtain ⟨cs, e1, _⟩ := h3
    exact hw.keep (Keep.set R m _) (Nat.zero_le _) e1 (by decide)
  refine ⟨hw, kp _ _ ha, h3.set (by omega), by rw [List.length_set]; exact h4, fun i z hz => ?_⟩
  by_cases e : i = m
  · subst e
    have e1 : z = y := by
      rw [List.getElem?_set_self (by have := h1.2.1; omega)] at hz
      exact (Option.some.inj hz).symm
    subst e1
    exact ⟨x, c2, by rw [List.getElem?_set_self (by omega)], kp _ _ hy⟩
  · rw [List.getElem?_set_ne (by omega)] at hz
    obtain ⟨z1, c1, e1, e2⟩ := h5 i z hz
    exact ⟨z1, c1, by rw [List.getElem?_set_ne (by omega)]; exact e1, kp _ _ e2⟩
set_option maxRecDepth 100000 in
theorem WI.half {W : World} {x : Option Addr} {c : Nat} {X : List Nat} (h : WI 0 W (.slice x 16 c) X) (hX : Bts 16 X) : ∃ b o, x = some ⟨b, o, none⟩ ∧ 16 ≤ c ∧ WI 0 W (.slice (some ⟨b, o, none⟩) 8 c) (X.take 8) ∧ WI 0 W (.slice (some ⟨b, o + 8, none⟩) 8 (c - 8)) (X.drop 8) := by
  obtain ⟨b, o, rfl, _, h2, h3, h4⟩ := h.1.cells (fun e => by have := hX.1; rw [e] at this; simp at this)
  refine ⟨b, o, rfl, h2, ⟨?_, fun k hk => h.2 k (by simpa [Value.ownBlock] using hk)⟩, ⟨?_, fun k hk => h.2 k (by simpa [Value.ownBlock] using hk)⟩⟩
  · have := sees_part (w := W) (b := b) (o := o) hX.byt h4 0 8 (by rw [hX.1]; omega) (by omega) c (by omega) h3
    rwa [List.drop_zero, Nat.add_zero] at this
  · have := sees_part (w := W) (b := b) (o := o) hX.byt h4 8 8 (by rw [hX.1]; omega) (by omega) (c - 8) (by omega) (by omega)
    rwa [List.take_of_length_le (by rw [List.length_drop, hX.1]; omega)] at this
set_option maxRecDepth 100000 in
theorem sl_to8o (q o L cap : Nat) (hc : 8 ≤ cap) (W : World) : (Instr.slice 31 (.slice (some ⟨q, o, none⟩) L cap) none (some (.int .i64 8)) none).run Tryz.prog W = .ok (.slice (some ⟨q, o, none⟩) 8 cap) W := by
  rw [run_slice_h W 31 (some ⟨q, o, none⟩) L cap (by kernel_rfl) .i64 8 (by omega) (by omega), size5']
  simp [Result.andThen, sliced, addr_add]
set_option maxRecDepth 100000 in
theorem size32' (W : World) : (sizeOf (Tryz.prog.elem 63)).run Tryz.prog W = .ok 1 W := by kernel_rfl
set_option maxRecDepth 100000 in
theorem slV_one (b o l cap i : Nat) (hj : i < l) (hc : l ≤ cap) (W : World) : (Instr.slice 63 (.slice (some ⟨b, o, none⟩) l cap) (some (.int .i64 (i : Int))) (some (.int .i64 ((i : Int) + 1))) none).run Tryz.prog W = .ok (.slice (some ⟨b, o + i, none⟩) 1 (cap - i)) W := by
  rw [run_slice_lh W 63 (some ⟨b, o, none⟩) l cap (by kernel_rfl) .i64 .i64 i (i + 1) (by omega) (by omega) (by omega), size32']
  have e : ¬ cap = i := by omega
  simp [Result.andThen, sliced, e, addr_add]
set_option maxRecDepth 100000 in
set_option maxHeartbeats 8000000 in
theorem refWrap (key b : List Nat) (hk : Bts 32 key) (kb ko kc n : Nat) (x : Option Addr) (L cap : Nat) (w : World) (hkey : ∀ i, i < 32 → w.cell? ⟨kb, ko + i, none⟩ = some (.int .u8 (at_ key i : Nat))) (hkc : 32 ≤ kc) (hkm : kc ≤ maxLen)
    (hs : Sees w (.slice x L cap) b) (hL : L = b.length) (hn : L = 8 * n) (h1 : 2 ≤ n) (h2 : n ≤ 16) :
    Calls Tryz.prog 20 #[.slice (some ⟨kb, ko, none⟩) 32 kc, .slice x L cap] w fun e w' => ∃ q c, e = .returned (.tuple #[.slice q (L + 8) c, .int .i64 0]) ∧ Sees w' (.slice q (L + 8) c) (wrp key b n) ∧ Below w.heap.size w w' := by
  have NW := Lib.hid (refNew key kb ko kc w hk hkey hkc hkm)
  have HS := Lib.hid hs
  have HLb := Lib.hid hL
  have HN := Lib.hid hn
  have HK := Lib.hid hk
  have hL1 : ¬ (L : Int) < 16 := by omega
  have hL2 : ¬ (128 : Int) < (L : Int) := by omega
  have hL3 : (L : Int).tmod 8 = 0 := by rw [Int.tmod_eq_emod_of_nonneg (by omega)]; omega
  have N12 : Hid (2 ≤ n ∧ n ≤ 16) := ⟨h1, h2⟩
  have EB : Hid (∀ z, Bts 16 z → Bts 16 (enc key z)) := fun z hz => enc_bts hk hz
  have ET : Hid (∀ z, turn (rkey key) z = enc key z) := fun z => (turn_flat key z).symm
  have WOK := Lib.hid (wds_ok n b (by omega) hs.1)
  obtain ⟨T, hT⟩ : ∃ T, T = tn (enc key) (fr8 ++ b) n := ⟨_, rfl⟩
  have T0 : Hid (T 0 = fr8 ++ b) := by show _ = _; rw [hT]; rfl
  have TS : Hid (∀ k, T (k + 1) = stp (enc key) (T k) (k % n + 1) (k + 1)) := fun k => by rw [hT]; rfl
  have TW : Hid (T (6 * n) = wrp key b n) := by show _ = _; rw [hT]; rfl
  have n1 : (2 : Int) ≤ (n : Int) := by omega
  have n2 : (n : Int) ≤ 16 := by omega
  generalize wrp key b n = RES at *
  clear hT hs hL hn hk hkey hkc hkm h1 h2
  go_enter Tryz.func20, Tryz.ntmps20
  go_wp2_with fail
  refine NW.out.mono ?_
  rintro e w1 ⟨g, rfl, hrc, hb1⟩
  have RC1 := Lib.hid hrc
  have HB1 := Lib.hid hb1
  have WC := Lib.hid (refWords b x L cap n w1 (HS.out.below hb1) HLb.out HN.out (by have := N12.out; omega) (by have := N12.out; omega))
  clear hrc hb1 NW
  go_wp2_with fail
  refine WC.out.mono ?_
  rintro e w2 ⟨qr, cr, xs, rfl, ho, hxl, hw, hb2⟩
  obtain ⟨R, rfl, hR, hnc, hcm, hrw⟩ := ho.row hxl (by omega)
  have RW2 := Lib.hid hrw
  have HXL := Lib.hid hxl
  have HW2 := Lib.hid hw
  have HB2 := Lib.hid hb2
  have HR := Lib.hid hR
  clear ho hxl hw hb2 hR hrw WC
  go_wp2_with fail
  have b3 : Below w2.heap.size w2 (w2.alloc (.cells (ncells fr8) 5)) := (Below.refl _ _).alloc (Nat.le_refl _) _
  have DW3 : Hid (DW R n (w2.alloc (.cells (ncells fr8) 5)) (some ⟨w2.heap.size, 0, none⟩) 8 xs fr8 (wds n b)) := by
    refine ⟨⟨⟨rfl, fr8_byt⟩, WOK.out.1, WOK.out.2.1⟩, wq.own_wi (own_lit w2 w2.heap.size fr8 fr8_byt (by simp [maxLen, fr8_len]) (Nat.le_refl _)), RW2.out.below b3, HXL.out, fun i y hy => ?_⟩
    obtain ⟨z, c', e1, e2⟩ := HW2.out i y hy
    exact ⟨z, c', e1, e2.below b3⟩
  have B3 : Hid (Below w1.heap.size w1 (w2.alloc (.cells (ncells fr8) 5))) := HB2.out.trans (b3.mono HB2.out.size)
  have F0 : Hid (fl fr8 (wds n b) = T (n * 0)) := by show fl _ _ = _; unfold fl; rw [WOK.out.2.2, Nat.mul_zero, T0.out]
  obtain ⟨W3, hW3⟩ : ∃ W3, W3 = w2.alloc (.cells (ncells fr8) 5) := ⟨_, rfl⟩
  have hW3' : w2.alloc (.cells #[.int .u8 166, .int .u8 166, .int .u8 166, .int .u8 166, .int .u8 166, .int .u8 166, .int .u8 166, .int .u8 166] 5) = W3 := hW3.symm
  rw [← hW3] at DW3 B3
  rw [hW3']
  clear hW3 hW3' RW2 HW2 HB2 b3
  go_loopw [8, 9] (fun va vt wr => ∃ (t : Nat) (q : Option Addr) (c : Nat) (xs : List Value) (a : List Nat) (r : List (List Nat)), t ≤ 6 ∧ vt = .int .i64 t ∧ va = .slice q 8 c ∧ DW R n wr q c xs a r ∧ fl a r = T (n * t) ∧ Below w1.heap.size w1 wr) (fun _ vt _ => 6 - (intOf vt).toNat)
  case atStart => exact ⟨0, _, 8, xs, _, _, by omega, rfl, rfl, DW3.out, F0.out, B3.out⟩
  case round =>
    clear DW3 B3 F0 HXL
    clear xs
    obtain ⟨t, q, c, xs, a, r, ht, rfl, rfl, hd, hf, hb⟩ := hrel
    by_cases hlt : t < 6
    · have ht6 : (t : Int) < 6 := by omega
      have HD := Lib.hid hd
      have HF := Lib.hid hf
      have HBW := Lib.hid hb
      clear hd hf hb
      obtain ⟨P, hP⟩ : ∃ P, P = n * t := ⟨_, rfl⟩
      have hpt : (n : Int) * (t : Int) = (P : Int) := by rw [hP]; exact (Int.natCast_mul n t).symm
      have hP80 : P ≤ 80 := by
        rw [hP]
        have h5 : t ≤ 5 := by omega
        exact Nat.le_trans (Nat.mul_le_mul N12.out.2 h5) (by omega)
      have HP := Lib.hid hP
      have HPT := Lib.hid hpt
      rw [← hP] at HF
      clear hP hpt
      obtain ⟨wo, hwo⟩ : ∃ wo : World, wo = wr := ⟨_, rfl⟩
      rw [← hwo] at HD HBW ⊢
      clear hwo wr
      go_wp2_with fail
      go_loopw [8, 10] (fun va vi wr => ∃ (m : Nat) (q : Option Addr) (c : Nat) (xs : List Value) (a : List Nat) (r : List (List Nat)), m ≤ n ∧ vi = .int .i64 ((m : Int) + 1) ∧ va = .slice q 8 c ∧ DW R n wr q c xs a r ∧ fl a r = T (P + m) ∧ Below w1.heap.size w1 wr) (fun _ vi _ => n + 1 - (intOf vi).toNat)
      case atStart => exact ⟨0, q, c, xs, a, r, by omega, rfl, rfl, HD.out, HF.out, HBW.out⟩
      case round =>
        clear HD HF HBW
        obtain ⟨m, q, c, xs, a, r, hm, rfl, rfl, hd, hf, hb⟩ := hrel
        by_cases hmn : m < n
        · have hmi : (m : Int) + 1 ≤ (n : Int) := by omega
          have hml : (m : Int) < (n : Int) := by omega
          have s1 := slV_one R 0 n cr m hmn hnc
          rw [Nat.zero_add] at s1
          have S1 := Lib.hid s1
          have hrl : r.length = n := hd.1.2.1
          have hmr : m < r.length := by omega
          have hy := List.getElem?_eq_getElem hmr
          have WST := Lib.hid (wstep (E := enc key) EB.out (s := P + m + 1) hd.1 hmr (by omega))
          have BP := Lib.hid (hd.1.pair hmr)
          have BX := Lib.hid (EB.out _ BP.out)
          have JC := Lib.hid (joinC (.slice q 8 c) a R m 1 (cr - m) [r[m]] wr (by rw [hd.1.1.1]; omega) hd.2.1.1 rfl (by omega) (fun y hy => by simp at hy; rw [hy]; exact hd.1.l8 _ (List.getElem_mem hmr)) (fun i y hi => by
            cases i with
            | zero =>
              simp at hi
              rw [Nat.add_zero, ← hi]
              exact hd.cell hy
            | succ i => simp at hi))
          have hfl : a ++ [r[m]].flatten = a ++ r[m] := by simp
          rw [hfl] at JC
          have MM : Hid ((P + m) % n + 1 = m + 1) := by
            show _ = _
            rw [HP.out, Nat.mul_add_mod, Nat.mod_eq_of_lt hmn]
          have FN : Hid (T (P + (m + 1)) = stp (enc key) (fl a r) (m + 1) (P + m + 1)) := by
            show _ = _
            rw [hf, ← Nat.add_assoc, TS.out, MM.out]
          have TR := Lib.hid (fun (W : World) (q1 : Option Addr) (c1 : Nat) (h1 : RC W g key) (h2 : WI 0 W (.slice q1 16 c1) (a ++ r[m])) => wq.refTurn g key (a ++ r[m]) q1 c1 W HK.out BP.out h1 h2)
          rw [ET.out] at TR
          have HD := Lib.hid hd
          have HBW := Lib.hid hb
          have es : (P : Int) + ((m : Int) + 1) = ((P + m + 1 : Nat) : Int) := by omega
          obtain ⟨s, hs⟩ : ∃ s, s = P + m + 1 := ⟨_, rfl⟩
          rw [← hs] at es WST FN
          have hs2 : s < 256 := by omega
          have HSS := Lib.hid hs
          have HPM : Hid (P + (m + 1) = P + m + 1) := (Nat.add_assoc P m 1).symm
          clear hd hf hb hrl hy hfl s1 hs
          generalize enc key (a ++ r[m]) = X at *
          generalize a ++ r[m] = Y at *
          have hpt := HPT.out
          have s1 := S1.out
          go_wp2_with fail
          refine JC.out.mono ?_
          rintro e w3 ⟨q3, c3, rfl, ho3, hb3⟩
          rw [BP.out.1] at ho3 ⊢
          have W3 := Lib.hid (wq.own_wi ho3)
          have HD3 := Lib.hid (HD.out.below hb3)
          have HB3 := Lib.hid (HBW.out.trans (hb3.mono HBW.out.size))
          clear ho3 hb3 JC
          go_wp2_with fail
          refine (TR.out _ _ _ (RC1.out.below HB3.out) W3.out).mono ?_
          rintro e w4 ⟨q4, c4, rfl, hs4, hb4⟩
          obtain ⟨b4, o4, rfl, hc4, hl4, hr4⟩ := WI.half hs4 BX.out
          have HL4 := Lib.hid hl4
          have HR4 := Lib.hid hr4
          have HD4 := Lib.hid (HD3.out.below hb4)
          have HB4 := Lib.hid (HB3.out.trans (hb4.mono HB3.out.size))
          have t1 := sl_to8o b4 o4 16 c4 (by omega)
          have t2 := sl_from b4 o4 16 c4 8 (by omega) (by omega)
          have MX := Lib.hid (mixedC (some ⟨b4, o4, none⟩) c4 (X.take 8) s w4 (half_bts BX.out).1 hs2 hl4.1)
          clear hl4 hr4 hs4 hb4 TR W3
          go_wp2_with fail
          refine MX.out.mono ?_
          rintro e w5 ⟨q5, c5, rfl, ho5, hb5⟩
          have ML := (mixw_bts (half_bts BX.out).1 hs2).1
          rw [ML] at ho5 ⊢
          have DWN := Lib.hid (DW.step (HD4.out.below hb5) hmn (wq.own_wi ho5) (HR4.out.below hb5) WST.out.1)
          have HB5 := Lib.hid (HB4.out.trans (hb5.mono HB4.out.size))
          have D5 := HD4.out.below hb5
          obtain ⟨y0, hy0⟩ : ∃ y0, r[m]? = some y0 := ⟨_, List.getElem?_eq_getElem hmr⟩
          obtain ⟨u0, hu0, _⟩ := D5.cell hy0
          have hfz := D5.2.2.1.frozen m
          have CU := Lib.hid hu0
          have CF := Lib.hid hfz
          clear D5 hu0 hfz hy0 ho5 hb5 ML MX
          have hu0 := CU.out
          have hfz := CF.out
          go_wp2_with fail
          go_roundw
          case rel => exact ⟨m + 1, q5, c5, _, _, _, by omega, by go_num, rfl, DWN.out, by rw [FN.out]; exact WST.out.2, HB5.out.setCell (by have := HR.out; simp; omega) _⟩
          case measure => simp [intOf]; omega
        · have hmn' : m = n := by omega
          have hnm : ¬ (m : Int) + 1 ≤ (n : Int) := by omega
          have HD := Lib.hid hd
          have FF : Hid (fl a r = T (n * (t + 1))) := by show _ = _; rw [hf, hmn', HP.out, Nat.mul_succ]
          have HBW := Lib.hid hb
          clear hd hf hb hmn'
          go_wp2_with fail
          go_roundw
          case rel => exact ⟨t + 1, q, c, xs, a, r, by omega, by go_num, rfl, HD.out, FF.out, HBW.out⟩
          case measure => simp [intOf]; omega
    · have ht6 : t = 6 := by omega
      have RR : Hid (RES = a ++ r.flatten) := by
        show _ = _
        rw [← TW.out, Nat.mul_comm 6 n, ← ht6, ← hf]
        rfl
      have RL : Hid ((a ++ r.flatten).length = L + 8) := by
        show _ = _
        rw [List.length_append, flat_len hd.1.l8, hd.1.1.1, hd.1.2.1, HN.out]; omega
      have JC := Lib.hid (joinC (.slice q 8 c) a R 0 n cr r wr (by rw [hd.1.1.1]; omega) hd.2.1.1 hd.1.2.1 (by omega) hd.1.l8 (fun i y hi => by rw [Nat.zero_add]; exact hd.cell hi))
      have HBW := Lib.hid hb
      have hnt : ¬ (t : Int) < 6 := by omega
      clear hd hf hb ht6
      go_wp2_with fail
      refine JC.out.mono ?_
      rintro e w5 ⟨q5, c5, rfl, ho5, hb5⟩
      rw [RL.out] at ho5 ⊢
      have HO5 := Lib.hid ho5
      have HB5 := Lib.hid (HB1.out.trans ((HBW.out.trans (hb5.mono HBW.out.size)).mono HB1.out.size))
      clear ho5 hb5
      go_wp2_with fail
      go_ret2
      refine ⟨q5, c5, rfl, ?_, HB5.out⟩
      rw [RR.out]
      exact HO5.out.sees
end Go.Proofs.YtpkeofioobmmoaaGreatDoor.ae
