/-
  The document's Unwrap of words. Condition: the numbers are bytes.
-/
import Derived.Test.YtpkeofioobmmoaaGreatDoorAeWrU
namespace Go.Proofs.YtpkeofioobmmoaaGreatDoor.ae
open Go.RowKit
set_option maxRecDepth 100000 in
theorem slV_rest (b l cap : Nat) (hj : 1 < l) (hc : l ≤ cap) (W : World) : (Instr.slice 63 (.slice (some ⟨b, 0, none⟩) l cap) (some (.int .i64 1)) none none).run Tryz.prog W = .ok (.slice (some ⟨b, 1, none⟩) (l - 1) (cap - 1)) W := by
  have h := run_slice_l (P := Tryz.prog) W 63 (some ⟨b, 0, none⟩) l cap (by kernel_rfl) .i64 1 (by omega) (by omega)
  have e : ¬ cap = 1 := by omega
  rw [h, size32']
  simp [Result.andThen, sliced, e, addr_add]
set_option maxRecDepth 100000 in
theorem belowN {B : Nat} {a w : World} (h : Below B a w) (n : Nat) : Below B a (w.drewN n) := h.trans ⟨rfl, rfl, rfl, Nat.le_refl _, fun _ _ => rfl⟩
set_option maxRecDepth 100000 in
theorem at_fr8 : ∀ j, j < 8 → at_ fr8 j = 166 := by decide
set_option maxRecDepth 100000 in
theorem first8 {a : List Nat} (ha : a.length = 8) : (a = fr8 ↔ ∀ j, j < 8 → at_ a j = 166) :=
  ⟨fun h j hj => by rw [h]; exact at_fr8 j hj, fun h => bts_ext ha rfl fun j hj => by rw [h j hj, at_fr8 j hj]⟩
def UnwP (w : World) (L : Nat) (U : List Nat) (e : Ending) (w' : World) : Prop := Below w.heap.size w w' ∧ (U.take 8 = fr8 ∧ (∃ q c, e = .returned (.tuple #[.slice q (L - 8 : Nat) c, .int .i64 0]) ∧ Sees w' (.slice q (L - 8 : Nat) c) (U.drop 8)) ∨ U.take 8 ≠ fr8 ∧ e = .returned (.tuple #[.slice none 0 0, .int .i64 20]))
def J8 (w : World) (X : List Nat) (e : Ending) (w' : World) : Prop := ∃ (q : Option Addr) (c : Nat), e = .returned (.slice q 8 c) ∧ WI 0 w' (.slice q 8 c) X ∧ Below w.heap.size w w'
def J16 (w : World) (X : List Nat) (e : Ending) (w' : World) : Prop := ∃ (q : Option Addr) (c : Nat), e = .returned (.slice q 16 c) ∧ WI 0 w' (.slice q 16 c) X ∧ Below w.heap.size w w'
set_option maxRecDepth 100000 in
set_option maxHeartbeats 8000000 in
theorem refUnwrap (key b : List Nat) (hk : Bts 32 key) (kb ko kc n : Nat) (x : Option Addr) (L cap : Nat) (w : World) (hkey : ∀ i, i < 32 → w.cell? ⟨kb, ko + i, none⟩ = some (.int .u8 (at_ key i : Nat))) (hkc : 32 ≤ kc) (hkm : kc ≤ maxLen)
    (hs : Sees w (.slice x L cap) b) (hL : L = b.length) (hn : L = 8 * (n + 1)) (h1 : 2 ≤ n) (h2 : n ≤ 16) :
    Calls Tryz.prog 16 #[.slice (some ⟨kb, ko, none⟩) 32 kc, .slice x L cap] w (UnwP w L (unw key b n)) := by
  have NW := Lib.hid (refNew key kb ko kc w hk hkey hkc hkm)
  have HS := Lib.hid hs
  have HLb := Lib.hid hL
  have HN := Lib.hid hn
  have HK := Lib.hid hk
  have hL1 : ¬ (L : Int) < 24 := by omega
  have hL2 : ¬ (136 : Int) < (L : Int) := by omega
  have hL3 : (L : Int).tmod 8 = 0 := by rw [Int.tmod_eq_emod_of_nonneg (by omega)]; omega
  have N12 : Hid (2 ≤ n ∧ n ≤ 16) := ⟨h1, h2⟩
  have EB : Hid (∀ z, Bts 16 z → Bts 16 (dec key z)) := fun z hz => dec_bts hk hz
  have ET : Hid (∀ z, back (rkey key) z = dec key z) := fun z => (aesTurns.back_flat key z).symm
  have WOK := Lib.hid (wds_ok (n + 1) b (by omega) hs.1)
  obtain ⟨B, hB⟩ : ∃ B, B = bt (dec key) n := ⟨_, rfl⟩
  have B0 : Hid (∀ l, B 0 l = l) := fun l => by rw [hB]; rfl
  have BS : Hid (∀ k l, B (k + 1) l = B k (stb (dec key) l (k % n + 1) (k + 1))) := fun k l => by rw [hB]; rfl
  have BU : Hid (B (6 * n) b = unw key b n) := by show _ = _; rw [hB]; rfl
  have n1 : (2 : Int) ≤ (n : Int) := by omega
  have n2 : (n : Int) ≤ 16 := by omega
  generalize unw key b n = U at *
  clear hB hs hL hn hk hkey hkc hkm h1 h2
  go_enter Tryz.func16, Tryz.ntmps16
  go_wp2_with fail
  refine NW.out.mono ?_
  rintro e w1 ⟨g, rfl, hrc, hb1⟩
  have RC1 := Lib.hid hrc
  have HB1 := Lib.hid hb1
  have WC := Lib.hid (refWords b x L cap (n + 1) w1 (HS.out.below hb1) HLb.out HN.out (by omega) (by have := N12.out; omega))
  clear hrc hb1 NW
  go_wp2_with fail
  refine WC.out.mono ?_
  rintro e w2 ⟨qr, cr, xs, rfl, ho, hxl, hw, hb2⟩
  obtain ⟨R, rfl, hR, hnc, hcm, hrw⟩ := ho.row hxl (by omega)
  obtain ⟨a0, r0, hwds⟩ : ∃ a0 r0, wds (n + 1) b = a0 :: r0 := ⟨_, _, rfl⟩
  have wok := WOK.out
  rw [hwds] at wok hw
  have ba0 : Bts 8 a0 := wok.2.1 a0 (List.mem_cons_self ..)
  obtain ⟨y0, d0, hx0, hy0⟩ := hw 0 a0 rfl
  have c0 := hrw.cell hx0
  have DW2 : Hid (DW R (n + 1) w2 y0 d0 xs a0 (a0 :: r0)) := ⟨⟨ba0, wok.1, wok.2.1⟩, hy0, hrw, hxl, hw⟩
  have F0 : Hid (B (n * 6) (fl a0 r0) = U) := by
    show _ = _
    rw [Nat.mul_comm n 6, show fl a0 r0 = b from wok.2.2, BU.out]
  have SR := Lib.hid (slV_rest R (n + 1) cr (by omega) hnc)
  rw [Nat.add_sub_cancel] at SR
  have HB2 := Lib.hid hb2
  have HR := Lib.hid hR
  have CC0 := Lib.hid c0
  have hcr : n ≤ cr - 1 := by omega
  have HCR := Lib.hid hcr
  clear ho hxl hw hb2 hR hrw WC hwds wok ba0 hx0 hy0 WOK hcm c0 hcr
  have c0 := CC0.out
  have sr := SR.out
  have nn1 : (0 : Int) < ((n + 1 : Nat) : Int) := by omega
  go_wp2_with fail
  go_quiet (fail)
  clear c0 sr nn1
  go_wp2_with fail
  go_loopw [8, 10] (fun va vt wr => ∃ (k : Nat) (q : Option Addr) (c : Nat) (xs : List Value) (a : List Nat) (r : List (List Nat)) (z : List Nat), k ≤ 6 ∧ vt = .int .i64 ((k : Int) - 1) ∧ va = .slice q 8 c ∧ DW R (n + 1) wr q c xs a (z :: r) ∧ B (n * k) (fl a r) = U ∧ Below w1.heap.size w1 wr) (fun _ vt _ => (intOf vt + 1).toNat)
  case atStart => exact ⟨6, y0, d0, xs, a0, r0, a0, by omega, rfl, rfl, DW2.out.below (belowN (Below.refl _ _) _), F0.out, belowN HB2.out _⟩
  case round =>
    clear DW2 F0 HB2 CC0 SR
    obtain ⟨k, q, c, xs, a, r, z, hk6, rfl, rfl, hd, hf, hb⟩ := hrel
    by_cases hlt : 0 < k
    · obtain ⟨j, rfl⟩ : ∃ j, k = j + 1 := ⟨k - 1, by omega⟩
      have ej : (((j + 1 : Nat) : Int) - 1) = (j : Int) := by omega
      rw [ej]
      have hj6 : (j : Int) < 6 := by omega
      have HD := Lib.hid hd
      have HF := Lib.hid hf
      have HBW := Lib.hid hb
      clear hd hf hb ej
      obtain ⟨P, hP⟩ : ∃ P, P = n * j := ⟨_, rfl⟩
      have hpt : (n : Int) * (j : Int) = (P : Int) := by rw [hP]; exact (Int.natCast_mul n j).symm
      have hP80 : P ≤ 80 := by
        rw [hP]
        have h5 : j ≤ 5 := by omega
        exact Nat.le_trans (Nat.mul_le_mul N12.out.2 h5) (by omega)
      have HP := Lib.hid hP
      have HPT := Lib.hid hpt
      rw [Nat.mul_succ, ← hP] at HF
      clear hP hpt
      obtain ⟨wo, hwo⟩ : ∃ wo : World, wo = wr := ⟨_, rfl⟩
      rw [← hwo] at HD HBW ⊢
      clear hwo wr
      go_wp2_with fail
      go_loopw [8, 11] (fun va vi wr => ∃ (m : Nat) (q : Option Addr) (c : Nat) (xs : List Value) (a : List Nat) (r : List (List Nat)) (z : List Nat), m ≤ n ∧ vi = .int .i64 (m : Int) ∧ va = .slice q 8 c ∧ DW R (n + 1) wr q c xs a (z :: r) ∧ B (P + m) (fl a r) = U ∧ Below w1.heap.size w1 wr) (fun _ vi _ => (intOf vi).toNat)
      case atStart => exact ⟨n, q, c, xs, a, r, z, by omega, rfl, rfl, HD.out, HF.out, HBW.out⟩
      case round =>
        clear HD HF HBW
        obtain ⟨m0, q, c, xs, a, r, z, hm, rfl, rfl, hd, hf, hb⟩ := hrel
        by_cases hmn : 0 < m0
        · obtain ⟨m, rfl⟩ : ∃ m, m0 = m + 1 := ⟨m0 - 1, by omega⟩
          have ws : WS n a r := ⟨hd.1.1, by have := hd.1.2.1; rw [List.length_cons] at this; omega, fun x hx => hd.1.2.2 x (List.mem_cons_of_mem _ hx)⟩
          have em : (((m + 1 : Nat) : Nat) : Int) = (m : Int) + 1 := by omega
          rw [em]
          have hmi : (1 : Int) ≤ (m : Int) + 1 := by omega
          have hml : (m : Int) < (n : Int) := by omega
          have s1 := slV_one R 1 n (cr - 1) m (by omega) HCR.out
          have S1 := Lib.hid s1
          have hrl : r.length = n := ws.2.1
          have hmr : m < r.length := by omega
          have hy := List.getElem?_eq_getElem hmr
          have UST := Lib.hid (ustep (D := dec key) EB.out (s := P + m + 1) ws hmr (by omega))
          have M8 := mixw_bts ws.1 (show P + m + 1 < 256 by omega)
          have y8 : Bts 8 r[m] := ws.2.2 _ (List.getElem_mem hmr)
          have BY : Hid (Bts 16 (mixw a (P + m + 1) ++ r[m])) := ⟨by rw [List.length_append, M8.1, y8.1], M8.byt.append y8.2⟩
          have BX := Lib.hid (EB.out _ BY.out)
          have JC0 : Hid (∀ (W : World) (q1 : Option Addr) (c1 : Nat), Below wr.heap.size wr W → WI 0 W (.slice q1 8 c1) (mixw a (P + m + 1)) → Calls Tryz.prog 34 #[.slice q1 8 c1, .slice (some ⟨R, 1 + m, none⟩) 1 (cr - 1 - m)] W (J16 W (mixw a (P + m + 1) ++ r[m]))) := fun W q1 c1 hS h1 => by
            have := joinC (.slice q1 8 c1) (mixw a (P + m + 1)) R (1 + m) 1 (cr - 1 - m) [r[m]] W (by rw [M8.1]; omega) h1.1 rfl (by omega) (fun y hy => by simp at hy; rw [hy]; exact y8.1) (fun i y hi => by
              cases i with
              | zero =>
                simp at hi
                rw [Nat.add_zero, ← hi]
                exact (hd.below hS).cell (by rw [Nat.add_comm 1 m, List.getElem?_cons_succ]; exact hy)
              | succ i => simp at hi)
            refine this.mono ?_
            rintro e w' ⟨q2, c2, rfl, ho, hb2⟩
            have e1 : mixw a (P + m + 1) ++ [r[m]].flatten = mixw a (P + m + 1) ++ r[m] := by simp
            rw [e1] at ho ⊢
            rw [BY.out.1] at ho ⊢
            exact ⟨q2, c2, rfl, wq.own_wi ho, hb2⟩
          have MC0 : Hid (∀ W : World, Below wr.heap.size wr W → Calls Tryz.prog 35 #[.slice q 8 c, .int .i64 ((P + m + 1 : Nat) : Int)] W (J8 W (mixw a (P + m + 1)))) := fun W hS => by
            refine (mixedC q c a (P + m + 1) W ws.1 (by omega) (hd.2.1.1.below hS)).mono ?_
            rintro e w' ⟨q2, c2, rfl, ho, hb2⟩
            rw [M8.1] at ho ⊢
            exact ⟨q2, c2, rfl, wq.own_wi ho, hb2⟩
          have MM : Hid ((P + m) % n + 1 = m + 1) := by
            show _ = _
            rw [HP.out, Nat.mul_add_mod, Nat.mod_eq_of_lt (by omega)]
          have FN : Hid (B (P + m) (stb (dec key) (fl a r) (m + 1) (P + m + 1)) = U) := by
            show _ = _
            rw [← hf, ← Nat.add_assoc, BS.out, MM.out]
          have TR := Lib.hid (fun (W : World) (q1 : Option Addr) (c1 : Nat) (h1 : RC W g key) (h2 : WI 0 W (.slice q1 16 c1) (mixw a (P + m + 1) ++ r[m])) => wq.refBack g key (mixw a (P + m + 1) ++ r[m]) q1 c1 W HK.out BY.out h1 h2)
          rw [ET.out] at TR
          rw [← UST.out.2] at FN
          have HD := Lib.hid hd
          have HBW := Lib.hid hb
          have es : ((P + m + 1 : Nat) : Int) = (P : Int) + ((m : Int) + 1) := by omega
          rw [es] at MC0
          have MC := MC0
          have JC := JC0
          have WP : Hid (IntKind.i64.wrap (P : Int) = (P : Int)) := IntWalk.i64_in _ (by omega)
          have WPM : Hid (IntKind.i64.wrap ((P : Int) + ((m : Int) + 1)) = (P : Int) + ((m : Int) + 1)) := IntWalk.i64_in _ (by omega)
          have WM : Hid (IntKind.i64.wrap (m : Int) = (m : Int)) := IntWalk.i64_in _ (by omega)
          have HZL : Hid (xs.length = n + 1) := hd.2.2.2.1
          clear hd hf hb hrl hy s1 JC0 MC0 em es M8 y8
          have WS1 : Hid (WS n ((dec key (mixw a (P + m + 1) ++ r[m])).take 8) (r.set m ((dec key (mixw a (P + m + 1) ++ r[m])).drop 8))) := UST.out.1
          generalize dec key (mixw a (P + m + 1) ++ r[m]) = X at *
          generalize mixw a (P + m + 1) ++ r[m] = Y at *
          generalize mixw a (P + m + 1) = M at *
          clear UST
          obtain ⟨w0, hw0⟩ : ∃ w0 : World, w0 = wr := ⟨_, rfl⟩
          rw [← hw0] at MC JC HD HBW ⊢
          clear hw0 wr
          go_wp2_with fail
          refine wp_region_held_drew (S := fun W => Below w0.heap.size w0 W) (by kernel_rfl) (Below.refl _ _).drew (fun hS => ?_)
          refine' wpAnyH_take (i := 0) ?h1x0v ?hsx0v ?hfx0v ?hrx0v ?hQx0v (Or.inl ⟨?hwx0v, ?hyx0v⟩) hS ?restx0v
          case h1x0v => (simp only [List.getElem?_toArray, List.getElem?_cons_zero]; rfl)
          case hsx0v | hfx0v | hrx0v => kernel_rfl
          case hQx0v => exact fun _ _ _ h => h
          case hwx0v => rfl
          case hyx0v =>
            intro W hW
            go_simp
            try with_reducible rfl
          simp only [Act.put, List.setIfInBounds_toArray, List.set_cons_succ, List.set_cons_zero]
          refine' wpAnyH_take (i := 1) ?h1x1v ?hsx1v ?hfx1v ?hrx1v ?hQx1v (Or.inl ⟨?hwx1v, ?hyx1v⟩) hS ?restx1v
          case h1x1v => (simp only [List.getElem?_toArray, List.getElem?_cons_succ, List.getElem?_cons_zero]; rfl)
          case hsx1v | hfx1v | hrx1v => kernel_rfl
          case hQx1v => exact fun _ _ _ h => h
          case hwx1v => rfl
          case hyx1v =>
            intro W hW
            go_simp
            try with_reducible rfl
          simp only [Act.put, List.setIfInBounds_toArray, List.set_cons_succ, List.set_cons_zero]
          refine' wpAnyH_take (i := 2) ?h1x2v ?hsx2v ?hfx2v ?hrx2v ?hQx2v (Or.inl ⟨?hwx2v, ?hyx2v⟩) hS ?restx2v
          case h1x2v => (simp only [List.getElem?_toArray, List.getElem?_cons_succ, List.getElem?_cons_zero]; rfl)
          case hsx2v | hfx2v | hrx2v => kernel_rfl
          case hQx2v => exact fun _ _ _ h => h
          case hwx2v => rfl
          case hyx2v =>
            intro W hW
            go_simp
            try with_reducible rfl
          simp only [Act.put, List.setIfInBounds_toArray, List.set_cons_succ, List.set_cons_zero]
          refine' wpAnyH_take (i := 3) ?h1x3v ?hsx3v ?hfx3v ?hrx3v ?hQx3v (Or.inl ⟨?hwx3v, ?hyx3v⟩) hS ?restx3v
          case h1x3v => (simp only [List.getElem?_toArray, List.getElem?_cons_succ, List.getElem?_cons_zero]; rfl)
          case hsx3v | hfx3v | hrx3v => kernel_rfl
          case hQx3v => exact fun _ _ _ h => h
          case hwx3v => rfl
          case hyx3v =>
            intro W hW
            go_simp
            try with_reducible rfl
          simp only [Act.put, List.setIfInBounds_toArray, List.set_cons_succ, List.set_cons_zero]
          refine' wpAnyH_take (i := 4) ?h1x4v ?hsx4v ?hfx4v ?hrx4v ?hQx4v (Or.inl ⟨?hwx4v, ?hyx4v⟩) hS ?restx4v
          case h1x4v => (simp only [List.getElem?_toArray, List.getElem?_cons_succ, List.getElem?_cons_zero]; rfl)
          case hsx4v | hfx4v | hrx4v => kernel_rfl
          case hQx4v => exact fun _ _ _ h => h
          case hwx4v => rfl
          case hyx4v =>
            intro W hW
            go_simp
            try with_reducible rfl
          simp only [Act.put, List.setIfInBounds_toArray, List.set_cons_succ, List.set_cons_zero]
          refine' wpAnyH_take (i := 5) ?h1x5v ?hsx5v ?hfx5v ?hrx5v ?hQx5v (Or.inl ⟨?hwx5v, ?hyx5v⟩) hS ?restx5v
          case h1x5v => (simp only [List.getElem?_toArray, List.getElem?_cons_succ, List.getElem?_cons_zero]; rfl)
          case hsx5v | hfx5v | hrx5v => kernel_rfl
          case hQx5v => exact fun _ _ _ h => h
          case hwx5v => rfl
          case hyx5v =>
            intro W hW
            have hpt := HPT.out
            have wp := WP.out
            go_simp
            try with_reducible rfl
          simp only [Act.put, List.setIfInBounds_toArray, List.set_cons_succ, List.set_cons_zero]
          refine' wpAnyH_take (i := 6) ?h1x6v ?hsx6v ?hfx6v ?hrx6v ?hQx6v (Or.inl ⟨?hwx6v, ?hyx6v⟩) hS ?restx6v
          case h1x6v => (simp only [List.getElem?_toArray, List.getElem?_cons_succ, List.getElem?_cons_zero]; rfl)
          case hsx6v | hfx6v | hrx6v => kernel_rfl
          case hQx6v => exact fun _ _ _ h => h
          case hwx6v => rfl
          case hyx6v =>
            intro W hW
            go_simp
            try with_reducible rfl
          simp only [Act.put, List.setIfInBounds_toArray, List.set_cons_succ, List.set_cons_zero]
          refine' wpAnyH_take (i := 7) ?h1x7v ?hsx7v ?hfx7v ?hrx7v ?hQx7v (Or.inl ⟨?hwx7v, ?hyx7v⟩) hS ?restx7v
          case h1x7v => (simp only [List.getElem?_toArray, List.getElem?_cons_succ, List.getElem?_cons_zero]; rfl)
          case hsx7v | hfx7v | hrx7v => kernel_rfl
          case hQx7v => exact fun _ _ _ h => h
          case hwx7v => rfl
          case hyx7v =>
            intro W hW
            have wp := WPM.out
            go_simp
            try with_reducible rfl
          simp only [Act.put, List.setIfInBounds_toArray, List.set_cons_succ, List.set_cons_zero]
          refine' wpAnyH_take (i := 9) ?h1x9v ?hsx9v ?hfx9v ?hrx9v ?hQx9v (Or.inl ⟨?hwx9v, ?hyx9v⟩) hS ?restx9v
          case h1x9v => (simp only [List.getElem?_toArray, List.getElem?_cons_succ, List.getElem?_cons_zero]; rfl)
          case hsx9v | hfx9v | hrx9v => kernel_rfl
          case hQx9v => exact fun _ _ _ h => h
          case hwx9v => rfl
          case hyx9v =>
            intro W hW
            go_simp
            try with_reducible rfl
          simp only [Act.put, List.setIfInBounds_toArray, List.set_cons_succ, List.set_cons_zero]
          refine' wpAnyH_take (i := 10) ?h1x10v ?hsx10v ?hfx10v ?hrx10v ?hQx10v (Or.inl ⟨?hwx10v, ?hyx10v⟩) hS ?restx10v
          case h1x10v => (simp only [List.getElem?_toArray, List.getElem?_cons_succ, List.getElem?_cons_zero]; rfl)
          case hsx10v | hfx10v | hrx10v => kernel_rfl
          case hQx10v => exact fun _ _ _ h => h
          case hwx10v => rfl
          case hyx10v =>
            intro W hW
            go_simp
            try with_reducible rfl
          simp only [Act.put, List.setIfInBounds_toArray, List.set_cons_succ, List.set_cons_zero]
          refine' wpAnyH_take (i := 11) ?h1x11v ?hsx11v ?hfx11v ?hrx11v ?hQx11v (Or.inl ⟨?hwx11v, ?hyx11v⟩) hS ?restx11v
          case h1x11v => (simp only [List.getElem?_toArray, List.getElem?_cons_succ, List.getElem?_cons_zero]; rfl)
          case hsx11v | hfx11v | hrx11v => kernel_rfl
          case hQx11v => exact fun _ _ _ h => h
          case hwx11v => rfl
          case hyx11v =>
            intro W hW
            have wp := WM.out
            go_simp
            try with_reducible rfl
          simp only [Act.put, List.setIfInBounds_toArray, List.set_cons_succ, List.set_cons_zero]
          refine' wpAnyH_take (i := 12) ?h1x12v ?hsx12v ?hfx12v ?hrx12v ?hQx12v (Or.inl ⟨?hwx12v, ?hyx12v⟩) hS ?restx12v
          case h1x12v => (simp only [List.getElem?_toArray, List.getElem?_cons_succ, List.getElem?_cons_zero]; rfl)
          case hsx12v | hfx12v | hrx12v => kernel_rfl
          case hQx12v => exact fun _ _ _ h => h
          case hwx12v => rfl
          case hyx12v =>
            intro W hW
            go_simp
            try with_reducible rfl
          simp only [Act.put, List.setIfInBounds_toArray, List.set_cons_succ, List.set_cons_zero]
          refine' wpAnyH_take (i := 13) ?h1x13v ?hsx13v ?hfx13v ?hrx13v ?hQx13v (Or.inl ⟨?hwx13v, ?hyx13v⟩) hS ?restx13v
          case h1x13v => (simp only [List.getElem?_toArray, List.getElem?_cons_succ, List.getElem?_cons_zero]; rfl)
          case hsx13v | hfx13v | hrx13v => kernel_rfl
          case hQx13v => exact fun _ _ _ h => h
          case hwx13v => rfl
          case hyx13v =>
            intro W hW
            have s1 := S1.out
            go_simp
            try with_reducible rfl
          simp only [Act.put, List.setIfInBounds_toArray, List.set_cons_succ, List.set_cons_zero]
          refine wpAnyH_ready (rs := [8]) (by kernel_rfl) (by simp) ?_
          refine' AllReadyH.cons ?hoc8v (fun K hK => ?stc8v) AllReadyH.nil
          case hoc8v => (simp only [List.getElem?_toArray, List.getElem?_cons_succ, List.getElem?_cons_zero]; rfl)
          go_simp
          refine (MC.out _ hS).mono ?_
          rintro e w3 ⟨q3, c3, rfl, hw3, hb⟩
          go_wp2_with fail
          refine hK.out _ _ (hS.trans (hb.mono hS.size)) (fun hHeld => ?_)
          clear hK K
          try simp only [Act.put, List.setIfInBounds_toArray, List.set_cons_succ, List.set_cons_zero]
          clear hS hb
          have hS := hHeld
          clear hHeld
          refine wpAnyH_ready (rs := [14]) (by kernel_rfl) (by simp) ?_
          refine' AllReadyH.cons ?hoc14v (fun K hK => ?stc14v) AllReadyH.nil
          case hoc14v => (simp only [List.getElem?_toArray, List.getElem?_cons_succ, List.getElem?_cons_zero]; rfl)
          go_simp
          refine (JC.out _ q3 c3 hS hw3).mono ?_
          rintro e w4 ⟨q4, c4, rfl, hw4, hb⟩
          go_wp2_with fail
          refine hK.out _ _ (hS.trans (hb.mono hS.size)) (fun hHeld => ?_)
          clear hK K
          try simp only [Act.put, List.setIfInBounds_toArray, List.set_cons_succ, List.set_cons_zero]
          clear hS hb
          have hS := hHeld
          clear hHeld
          refine wpAnyH_ready (rs := [15]) (by kernel_rfl) (by simp) ?_
          refine' AllReadyH.cons ?hoc15v (fun K hK => ?stc15v) AllReadyH.nil
          case hoc15v => (simp only [List.getElem?_toArray, List.getElem?_cons_succ, List.getElem?_cons_zero]; rfl)
          go_simp
          refine (TR.out _ q4 c4 (RC1.out.below (HBW.out.trans (hS.mono HBW.out.size))) hw4).mono ?_
          rintro e w5 ⟨q5, c5, rfl, hw5, hb⟩
          go_wp2_with fail
          refine hK.out _ _ (hS.trans (hb.mono hS.size)) (fun hHeld => ?_)
          clear hK K
          try simp only [Act.put, List.setIfInBounds_toArray, List.set_cons_succ, List.set_cons_zero]
          clear hS hb
          have hS := hHeld
          clear hHeld
          refine' wpAnyH_take (i := 16) ?h1x16v ?hsx16v ?hfx16v ?hrx16v ?hQx16v (Or.inl ⟨?hwx16v, ?hyx16v⟩) hS ?restx16v
          case h1x16v => (simp only [List.getElem?_toArray, List.getElem?_cons_succ, List.getElem?_cons_zero]; rfl)
          case hsx16v | hfx16v | hrx16v => kernel_rfl
          case hQx16v => exact fun _ _ _ h => h
          case hwx16v => rfl
          case hyx16v =>
            intro W hW
            go_simp
            try with_reducible rfl
          simp only [Act.put, List.setIfInBounds_toArray, List.set_cons_succ, List.set_cons_zero]
          refine wpAnyH_done (by kernel_rfl) ?_ _
          obtain ⟨b4, o4, rfl, hc4, hl4, hr4⟩ := WI.half hw5 BX.out
          have HL4 := Lib.hid hl4
          have HR4 := Lib.hid hr4
          have HD4 := Lib.hid (HD.out.below hS)
          have HB4 := Lib.hid (HBW.out.trans (hS.mono HBW.out.size))
          have t1 := sl_to8o b4 o4 16 c5 (by omega)
          have t2 := sl_from b4 o4 16 c5 8 (by omega) (by omega)
          have DWN := Lib.hid (DW.step HD4.out (show m + 1 < n + 1 by omega) hl4 hr4 (y := X.drop 8) (by
            rw [List.set_cons_succ]
            refine ⟨WS1.out.1, by rw [List.length_cons, WS1.out.2.1], fun v hv => ?_⟩
            rcases List.mem_cons.1 hv with rfl | hv
            · exact HD4.out.1.2.2 _ (List.mem_cons_self ..)
            · exact WS1.out.2.2 v hv))
          rw [List.set_cons_succ] at DWN
          obtain ⟨y0, hy0⟩ : ∃ y0, (z :: r)[1 + m]? = some y0 := ⟨_, by rw [Nat.add_comm 1 m, List.getElem?_cons_succ]; exact List.getElem?_eq_getElem hmr⟩
          obtain ⟨u0, hu0, _⟩ := HD4.out.cell hy0
          have hfz := HD4.out.2.2.1.frozen (1 + m)
          rw [show m + 1 = 1 + m by omega] at DWN
          clear hy0 hl4 hr4 hw3 hw4 hw5 hS TR JC MC
          go_wp2_with fail
          go_roundw
          case rel => exact ⟨m, _, _, _, _, _, z, by omega, by simp, rfl, DWN.out, FN.out, HB4.out.setCell (by have := HR.out; simp; omega) _⟩
          case measure => simp [intOf]
        · have hm0 : m0 = 0 := by omega
          subst hm0
          have HD := Lib.hid hd
          have FF : Hid (B (n * j) (fl a r) = U) := by show _ = _; rw [← hf, HP.out, Nat.add_zero]
          have HBW := Lib.hid hb
          clear hd hf hb
          go_wp2_with fail
          go_roundw
          case rel => exact ⟨j, q, c, xs, a, r, z, by omega, rfl, rfl, HD.out, FF.out, HBW.out⟩
          case measure => simp [intOf]
    · have hk0 : k = 0 := by omega
      subst hk0
      have ws : WS n a r := ⟨hd.1.1, by have := hd.1.2.1; rw [List.length_cons] at this; omega, fun x hx => hd.1.2.2 x (List.mem_cons_of_mem _ hx)⟩
      have UF : Hid (U = fl a r) := by show _ = _; rw [← hf, Nat.mul_zero, B0.out]
      have UT : Hid (U.take 8 = a) := by show _ = _; rw [UF.out]; exact List.take_left' ws.1.1
      have UD : Hid (U.drop 8 = r.flatten) := by show _ = _; rw [UF.out]; exact List.drop_left' ws.1.1
      obtain ⟨ab, ao, rfl, hnl, hc8, hmx, hca⟩ := hd.2.1.1.cells (fun e => by have := ws.1.1; rw [e] at this; simp at this)
      have CA : Hid (∀ i, i < 8 → wr.cell? ⟨ab, ao + i, none⟩ = some (.int .u8 (at_ a i : Nat))) := fun i hi => hca i (by rw [ws.1.1]; exact hi)
      have JC := Lib.hid (joinC (.slice none 0 0) [] R 1 n (cr - 1) r wr (by simp) ⟨byt_nil, .inl ⟨rfl, rfl⟩⟩ ws.2.1 (by omega) ws.l8 (fun i y hi => hd.cell (by rw [Nat.add_comm 1 i, List.getElem?_cons_succ]; exact hi)))
      rw [List.nil_append] at JC
      have RL : Hid (r.flatten.length = L - 8) := by show _ = _; rw [flat_len ws.l8, ws.2.1, HN.out]; omega
      have AL := Lib.hid ws.1
      have HBW := Lib.hid hb
      have BEF : Hid (Below w.heap.size w wr) := HB1.out.trans (hb.mono HB1.out.size)
      obtain ⟨wo, hwo⟩ : ∃ wo : World, wo = wr := ⟨_, rfl⟩
      rw [← hwo] at CA JC HBW BEF ⊢
      clear hd hf hb ws hca hc8 hwo wr hnl hmx
      go_wp2_with fail
      go_loopw [13] (fun vi wr => ∃ i : Nat, i ≤ 8 ∧ vi = .int .i64 i ∧ (∀ j, j < i → at_ a j = 166) ∧ wr = wo) (fun vi _ => 8 - (intOf vi).toNat)
      case atStart => exact ⟨0, by omega, rfl, fun j h => by omega, rfl⟩
      case round =>
        obtain ⟨i, hi, rfl, hall, rfl⟩ := hrel
        have HALL := Lib.hid hall
        clear hall
        by_cases hlt : i < 8
        · have hii : (i : Int) < 8 := by omega
          have ci := CA.out i hlt
          have al := AL.out.byt.at i
          by_cases e : at_ a i = 166
          · have E := Lib.hid e
            rw [e] at ci
            clear e al
            go_wp2_with fail
            go_roundw
            case rel => exact ⟨i + 1, by omega, by go_num, fun j hj => by
              by_cases e : j = i
              · rw [e]; exact E.out
              · exact HALL.out j (by omega), by first | exact rfl | trivial⟩
            case measure => simp [intOf]; omega
          · have E : Hid (a ≠ fr8) := fun h => e ((first8 AL.out.1).1 h i hlt)
            have ne : (((at_ a i : Nat) : Int) == 166) = false := by simp; omega
            have ne2 : (((at_ a i : Nat) : Int) != 166) = true := by simp; omega
            clear e
            generalize at_ a i = v at *
            go_wp2_with fail
            go_ret2
            refine ⟨BEF.out, .inr ⟨fun h => ?_, rfl⟩⟩
            rw [UT.out] at h
            exact E.out h
        · have hi8 : i = 8 := by omega
          subst hi8
          have AF : Hid (a = fr8) := (first8 AL.out.1).2 HALL.out
          go_wp2_with fail
          refine JC.out.mono ?_
          rintro e w5 ⟨q5, c5, rfl, ho5, hb5⟩
          rw [RL.out] at ho5 ⊢
          have HO5 := Lib.hid ho5
          have HB5 := Lib.hid (BEF.out.trans (hb5.mono BEF.out.size))
          clear ho5 hb5
          go_wp2_with fail
          go_ret2
          exact ⟨HB5.out, .inl ⟨by rw [UT.out]; exact AF.out, q5, c5, rfl, by rw [UD.out]; exact HO5.out.sees⟩⟩
end Go.Proofs.YtpkeofioobmmoaaGreatDoor.ae
