/-
  Contracts of the document's own functions of package aes: rows moved, columns multiplied, a round key. Condition: the numbers are bytes.
-/
import Derived.Test.YtekffhopmicalaaRefA
namespace Go.Proofs.Ytekffhopmicalaa
open Go.RowKit
/-- Sixteen bytes in a row. -/
def At16 (w : World) (b o : Nat) (xs : List Nat) (n : Nat) : Prop := ∀ i, i < n → w.cell? ⟨b, o + i, none⟩ = some (.int .u8 (at_ xs i : Nat))
theorem Sees.at16 {w : World} {x : Option Addr} {n cap : Nat} {xs : List Nat} (h : Sees w (.slice x n cap) xs) (h0 : 0 < xs.length) : ∃ b o, x = some ⟨b, o, none⟩ ∧ n = xs.length ∧ n ≤ cap ∧ cap ≤ maxLen ∧ At16 w b o xs xs.length := by
  obtain ⟨b, o, h1, h2, h3, h4, h5⟩ := h.cells (fun e => by rw [e] at h0; simp at h0)
  exact ⟨b, o, h1, h2, h3, h4, h5⟩
set_option maxRecDepth 100000 in
set_option maxHeartbeats 4000000 in
theorem refRows (x : Option Addr) (cap : Nat) (xs : List Nat) (w : World) (hB : Bts 16 xs) (hs : Sees w (.slice x 16 cap) xs) : Calls Try.prog 52 #[.slice x 16 cap] w (OwnP w (mv 1 xs)) := by
  obtain ⟨b, o, rfl, hlx, hcl, hcm, hc⟩ := hs.at16 (by rw [hB.1]; omega)
  have HC : Hid (∀ i, i < 16 → w.cell? ⟨b, o + i, none⟩ = some (.int .u8 (at_ xs i : Nat))) := fun i hi => hc i (by rw [hB.1]; exact hi)
  have LB : Hid (b < w.heap.size) := World.block_lt_of_cell? w _ (HC.out 0 (by omega))
  have HBY := Lib.hid hB
  have hl : Hid ((mv 1 xs).length = 16) := tab_len _ _
  clear hlx hcl hcm hc hs hB
  go_enter Try.func52, Try.ntmps52
  go_wp2_with fail
  go_loopw [3, 4, 5] (fun v vi _ wr => ∃ (c : Nat) (q : Option Addr) (cp : Nat), c ≤ 4 ∧ vi = .int .i64 c ∧ v = .slice q (4 * c) cp ∧ Own wr w.heap.size (.slice q (4 * c) cp) (tab (4 * c) (fun i => at_ xs ((i + 4 * 1 * (i % 4)) % 16))) ∧ Below w.heap.size w wr) (fun _ vi _ _ => 4 - (intOf vi).toNat)
  case atStart => exact ⟨0, none, 0, by omega, rfl, rfl, own_nil _ _, Below.refl _ _⟩
  case round =>
    obtain ⟨c, q, cp, hi, rfl, rfl, ho, hb⟩ := hrel
    by_cases hlt : c < 4
    · obtain ⟨wo, rfl⟩ : ∃ wo : World, wo = wr := ⟨_, rfl⟩
      have hi16 : (c : Int) < 4 := by omega
      have HO := Lib.hid ho
      have HB := Lib.hid hb
      clear ho hb
      obtain ⟨l0, hl0⟩ : ∃ l, l = 4 * c := ⟨_, rfl⟩
      have HO2 : Hid (Own wo w.heap.size (.slice q l0 cp) (tab l0 (fun i => at_ xs ((i + 4 * 1 * (i % 4)) % 16)))) := by rw [hl0]; exact HO.out
      rw [← hl0]
      have HL0 := Lib.hid hl0
      clear HO hl0
      go_wp2_with fail
      go_loopw [3, 5] (fun v vi wr => ∃ (r : Nat) (q : Option Addr) (cp : Nat), r ≤ 4 ∧ vi = .int .i64 r ∧ v = .slice q (l0 + r) cp ∧ Own wr w.heap.size (.slice q (l0 + r) cp) (tab (l0 + r) (fun i => at_ xs ((i + 4 * 1 * (i % 4)) % 16))) ∧ Below w.heap.size w wr) (fun _ vi _ => 4 - (intOf vi).toNat)
      case atStart => exact ⟨0, q, cp, by omega, rfl, rfl, HO2.out, HB.out⟩
      case round =>
        clear HO2 HB
        obtain ⟨r, q, cp, hr4, rfl, rfl, ho, hb⟩ := hrel
        by_cases hlr : r < 4
        · have hr16 : (r : Int) < 4 := by omega
          obtain ⟨qq, hqq⟩ : ∃ qq, qq = (c + r) % 4 := ⟨_, rfl⟩
          obtain ⟨j, hj⟩ : ∃ j, j = 4 * qq + r := ⟨_, rfl⟩
          have e1 : ((c : Int) + (r : Int)) % 4 = (qq : Int) := by omega
          have e2 : 4 * (qq : Int) + (r : Int) = (j : Int) := by omega
          have q4 : (qq : Int) < 4 := by omega
          have j16 : j < 16 := by omega
          have ej : (l0 + r + 4 * 1 * ((l0 + r) % 4)) % 16 = j := by have := HL0.out; omega
          have cx := (hb.cell (p := ⟨b, o + j, none⟩) LB.out).trans (HC.out j j16)
          have xl := HBY.out.at_lt j
          obtain ⟨q1, c1, w1, hrun, ho1, hb1⟩ := ho.push (x := at_ xs ((l0 + r + 4 * 1 * ((l0 + r) % 4)) % 16)) (by rw [ej]; exact xl) (by rw [tab_len]; have := HL0.out; omega) hb.size
          rw [← tab_succ (l0 + r) (fun i => at_ xs ((i + 4 * 1 * (i % 4)) % 16)), tab_len] at ho1
          rw [tab_len, ej] at hrun
          have HO1 := Lib.hid ho1
          have HR := Lib.hid hrun
          have HB1 := Lib.hid (hb.trans hb1)
          clear ho1 hrun hb1 ho hb hqq hj ej
          generalize at_ xs j = z at *
          go_wp2_with (at_builtin; refine wpList_app rfl _ _ rfl rfl rfl rfl HR.out ?_)
          go_roundw
          case rel => exact ⟨r + 1, q1, c1, by omega, by go_num, rfl, HO1.out, HB1.out⟩
          case measure => simp [intOf]; omega
        · obtain rfl : r = 4 := by omega
          have HO := Lib.hid ho
          have HB := Lib.hid hb
          clear ho hb
          go_wp2_with fail
          go_roundw
          case rel =>
            have e : l0 + 4 = 4 * (c + 1) := by have := HL0.out; omega
            exact ⟨c + 1, q, cp, by omega, by go_num, by rw [e], by rw [← e]; exact HO.out, HB.out⟩
          case measure => simp [intOf]; omega
    · obtain rfl : c = 4 := by omega
      have HO : Hid (Own wr w.heap.size (.slice q 16 cp) (mv 1 xs)) := ho
      have HB := Lib.hid hb
      clear ho hb
      go_wp2_with fail
      go_ret
      unfold OwnP
      rw [hl.out]
      exact ⟨q, cp, rfl, HO.out, HB.out⟩
/-- The sum of the first k products for place i of a column. -/
def cacc (f xs : List Nat) (i : Nat) : Nat → Nat
  | 0 => 0
  | k + 1 => Nat.xor (cacc f xs i k) (mul (at_ f k) (at_ xs ((i + k) % 4)))
theorem cacc_lt {f xs : List Nat} (hf : Bts 4 f) (i : Nat) : ∀ k, cacc f xs i k < 256
  | 0 => by show 0 < 256; omega
  | k + 1 => xor_lt (cacc_lt hf i k) (mul_lt _ (hf.at_lt _))
def coll (f xs : List Nat) : List Nat := tab 4 fun i => cacc f xs i 4
set_option maxRecDepth 100000 in
set_option maxHeartbeats 4000000 in
theorem refColumn (x : Option Addr) (cap : Nat) (xs : List Nat) (y : Option Addr) (cy : Nat) (f : List Nat) (w : World) (hX : Bts 4 xs) (hF : Bts 4 f) (hs : Sees w (.slice x 4 cap) xs) (hy : Sees w (.slice y 4 cy) f) :
    Calls Try.prog 72 #[.slice x 4 cap, .slice y 4 cy] w (OwnP w (coll f xs)) := by
  obtain ⟨b, o, rfl, k1, k2, k3, hc⟩ := hs.at16 (by rw [hX.1]; omega)
  obtain ⟨b2, o2, rfl, k4, k5, k6, hc2⟩ := hy.at16 (by rw [hF.1]; omega)
  have HC : Hid (∀ i, i < 4 → w.cell? ⟨b, o + i, none⟩ = some (.int .u8 (at_ xs i : Nat))) := fun i hi => hc i (by rw [hX.1]; exact hi)
  have HC2 : Hid (∀ i, i < 4 → w.cell? ⟨b2, o2 + i, none⟩ = some (.int .u8 (at_ f i : Nat))) := fun i hi => hc2 i (by rw [hF.1]; exact hi)
  have LB : Hid (b < w.heap.size) := World.block_lt_of_cell? w _ (HC.out 0 (by omega))
  have LB2 : Hid (b2 < w.heap.size) := World.block_lt_of_cell? w _ (HC2.out 0 (by omega))
  have HX := Lib.hid hX
  have HF := Lib.hid hF
  have hl : Hid ((coll f xs).length = 4) := tab_len _ _
  clear k1 k2 k3 k4 k5 k6 hc hc2 hs hy hX hF
  go_enter Try.func72, Try.ntmps72
  go_wp2_with fail
  go_loopw [5, 6, 7, 8] (fun v vi _ _ wr => ∃ (i : Nat) (q : Option Addr) (cp : Nat), i ≤ 4 ∧ vi = .int .i64 i ∧ v = .slice q i cp ∧ Own wr w.heap.size (.slice q i cp) (tab i (fun i => cacc f xs i 4)) ∧ Below w.heap.size w wr) (fun _ vi _ _ _ => 4 - (intOf vi).toNat)
  case atStart => exact ⟨0, none, 0, by omega, rfl, rfl, own_nil _ _, Below.refl _ _⟩
  case round =>
    obtain ⟨i, q, cp, hi, rfl, rfl, ho, hb⟩ := hrel
    by_cases hlt : i < 4
    · obtain ⟨wo, rfl⟩ : ∃ wo : World, wo = wr := ⟨_, rfl⟩
      have hi16 : (i : Int) < 4 := by omega
      have HO := Lib.hid ho
      have HB := Lib.hid hb
      clear ho hb
      go_wp2_with fail
      go_loopw [7, 8] (fun vn vk wr => ∃ (k : Nat), k ≤ 4 ∧ vk = .int .i64 k ∧ vn = .int .u8 (cacc f xs i k : Nat) ∧ Own wr w.heap.size (.slice q i cp) (tab i (fun i => cacc f xs i 4)) ∧ Below w.heap.size w wr) (fun _ vk _ => 4 - (intOf vk).toNat)
      case atStart => exact ⟨0, by omega, rfl, rfl, HO.out, HB.out⟩
      case round =>
        clear HO HB
        obtain ⟨k, hk, rfl, rfl, ho, hb⟩ := hrel
        by_cases hlk : k < 4
        · have hk16 : (k : Int) < 4 := by omega
          obtain ⟨j, hj⟩ : ∃ j, j = (i + k) % 4 := ⟨_, rfl⟩
          have j4 : j < 4 := by omega
          have j4' : (j : Int) < 4 := by omega
          have ej : ((i : Int) + (k : Int)) % 4 = (j : Int) := by omega
          have e1 : IntKind.i64.wrap ((i : Int) + (k : Int)) = (i : Int) + (k : Int) := IntWalk.i64_in _ (by omega)
          have e3 : ((i : Int) + (k : Int)).tmod 4 = (j : Int) := by rw [Int.tmod_eq_emod_of_nonneg (by omega)]; exact ej
          have e4 : IntKind.i64.wrap (j : Int) = (j : Int) := IntWalk.i64_in _ (by omega)
          have C1 := Lib.hid (HC.out j j4)
          have C2 := Lib.hid (HC2.out k hlk)
          have fl := HF.out.at_lt k
          have xl := HX.out.at_lt j
          have x8 := xor8 (cacc f xs i k) (mul (at_ f k) (at_ xs j)) (cacc_lt HF.out i k) (mul_lt _ fl)
          have ca : cacc f xs i (k + 1) = Nat.xor (cacc f xs i k) (mul (at_ f k) (at_ xs j)) := by rw [cacc, hj]
          rw [← ca] at x8
          have X8 := Lib.hid x8
          clear x8 ca
          have RM := Lib.hid (refMul (at_ f k) (at_ xs j) fl xl)
          have HO := Lib.hid ho
          have HBB := Lib.hid hb
          clear ho hb hj
          generalize mul (at_ f k) (at_ xs j) = m at *
          generalize at_ f k = fk at *
          generalize at_ xs j = xj at *
          obtain ⟨nn, hnn⟩ : ∃ n, n = cacc f xs i (k + 1) := ⟨_, rfl⟩
          rw [← hnn] at X8
          have CA := Lib.hid hnn
          clear hnn
          generalize cacc f xs i k = n0 at *
          go_wp2_with fail
          refine wp_region_held_drew (S := fun W => Below w.heap.size w W ∧ Own W w.heap.size (.slice q i cp) (tab i (fun i => cacc f xs i 4))) (by kernel_rfl) ⟨HBB.out.drew, HO.out.drew⟩ (fun hS => ?_)
          refine' wpAnyH_take (i := 0) ?h1x0p ?hsx0p ?hfx0p ?hrx0p ?hQx0p (Or.inl ⟨?hwx0p, ?hyx0p⟩) hS ?restx0p
          case h1x0p => (simp only [List.getElem?_toArray, List.getElem?_cons_zero]; rfl)
          case hsx0p => kernel_rfl
          case hfx0p => kernel_rfl
          case hrx0p => kernel_rfl
          case hQx0p => exact fun _ _ _ h => h
          case hwx0p => rfl
          case hyx0p =>
            intro W hW
            go_simp
            try with_reducible rfl
          simp only [Act.put, List.setIfInBounds_toArray, List.set_cons_succ, List.set_cons_zero]
          refine' wpAnyH_take (i := 1) ?h1x1p ?hsx1p ?hfx1p ?hrx1p ?hQx1p (Or.inl ⟨?hwx1p, ?hyx1p⟩) hS ?restx1p
          case h1x1p => (simp only [List.getElem?_toArray, List.getElem?_cons_succ, List.getElem?_cons_zero]; rfl)
          case hsx1p => kernel_rfl
          case hfx1p => kernel_rfl
          case hrx1p => kernel_rfl
          case hQx1p => exact fun _ _ _ h => h
          case hwx1p => rfl
          case hyx1p =>
            intro W hW
            go_simp
            try with_reducible rfl
          simp only [Act.put, List.setIfInBounds_toArray, List.set_cons_succ, List.set_cons_zero]
          refine' wpAnyH_take (i := 2) ?h1x2p ?hsx2p ?hfx2p ?hrx2p ?hQx2p (Or.inl ⟨?hwx2p, ?hyx2p⟩) hS ?restx2p
          case h1x2p => (simp only [List.getElem?_toArray, List.getElem?_cons_succ, List.getElem?_cons_zero]; rfl)
          case hsx2p => kernel_rfl
          case hfx2p => kernel_rfl
          case hrx2p => kernel_rfl
          case hQx2p => exact fun _ _ _ h => h
          case hwx2p => rfl
          case hyx2p =>
            intro W hW
            go_simp
            try with_reducible rfl
          simp only [Act.put, List.setIfInBounds_toArray, List.set_cons_succ, List.set_cons_zero]
          refine' wpAnyH_take (i := 3) ?h1x3p ?hsx3p ?hfx3p ?hrx3p ?hQx3p (Or.inl ⟨?hwx3p, ?hyx3p⟩) hS ?restx3p
          case h1x3p => (simp only [List.getElem?_toArray, List.getElem?_cons_succ, List.getElem?_cons_zero]; rfl)
          case hsx3p => kernel_rfl
          case hfx3p => kernel_rfl
          case hrx3p => kernel_rfl
          case hQx3p => exact fun _ _ _ h => h
          case hwx3p => rfl
          case hyx3p =>
            intro W hW
            go_simp
            try with_reducible rfl
          simp only [Act.put, List.setIfInBounds_toArray, List.set_cons_succ, List.set_cons_zero]
          refine' wpAnyH_take (i := 4) ?h1x4p ?hsx4p ?hfx4p ?hrx4p ?hQx4p (Or.inl ⟨?hwx4p, ?hyx4p⟩) hS ?restx4p
          case h1x4p => (simp only [List.getElem?_toArray, List.getElem?_cons_succ, List.getElem?_cons_zero]; rfl)
          case hsx4p => kernel_rfl
          case hfx4p => kernel_rfl
          case hrx4p => kernel_rfl
          case hQx4p => exact fun _ _ _ h => h
          case hwx4p => rfl
          case hyx4p =>
            intro W hW
            have dd := (hW.1.cell (p := ⟨b2, o2 + k, none⟩) LB2.out).trans C2.out
            go_simp
            try with_reducible rfl
          simp only [Act.put, List.setIfInBounds_toArray, List.set_cons_succ, List.set_cons_zero]
          refine' wpAnyH_take (i := 5) ?h1x5p ?hsx5p ?hfx5p ?hrx5p ?hQx5p (Or.inl ⟨?hwx5p, ?hyx5p⟩) hS ?restx5p
          case h1x5p => (simp only [List.getElem?_toArray, List.getElem?_cons_succ, List.getElem?_cons_zero]; rfl)
          case hsx5p => kernel_rfl
          case hfx5p => kernel_rfl
          case hrx5p => kernel_rfl
          case hQx5p => exact fun _ _ _ h => h
          case hwx5p => rfl
          case hyx5p =>
            intro W hW
            go_simp
            try with_reducible rfl
          simp only [Act.put, List.setIfInBounds_toArray, List.set_cons_succ, List.set_cons_zero]
          refine' wpAnyH_take (i := 6) ?h1x6p ?hsx6p ?hfx6p ?hrx6p ?hQx6p (Or.inl ⟨?hwx6p, ?hyx6p⟩) hS ?restx6p
          case h1x6p => (simp only [List.getElem?_toArray, List.getElem?_cons_succ, List.getElem?_cons_zero]; rfl)
          case hsx6p => kernel_rfl
          case hfx6p => kernel_rfl
          case hrx6p => kernel_rfl
          case hQx6p => exact fun _ _ _ h => h
          case hwx6p => rfl
          case hyx6p =>
            intro W hW
            go_simp
            try with_reducible rfl
          simp only [Act.put, List.setIfInBounds_toArray, List.set_cons_succ, List.set_cons_zero]
          refine' wpAnyH_take (i := 7) ?h1x7p ?hsx7p ?hfx7p ?hrx7p ?hQx7p (Or.inl ⟨?hwx7p, ?hyx7p⟩) hS ?restx7p
          case h1x7p => (simp only [List.getElem?_toArray, List.getElem?_cons_succ, List.getElem?_cons_zero]; rfl)
          case hsx7p => kernel_rfl
          case hfx7p => kernel_rfl
          case hrx7p => kernel_rfl
          case hQx7p => exact fun _ _ _ h => h
          case hwx7p => rfl
          case hyx7p =>
            intro W hW
            go_simp
            try with_reducible rfl
          simp only [Act.put, List.setIfInBounds_toArray, List.set_cons_succ, List.set_cons_zero]
          refine' wpAnyH_take (i := 8) ?h1x8p ?hsx8p ?hfx8p ?hrx8p ?hQx8p (Or.inl ⟨?hwx8p, ?hyx8p⟩) hS ?restx8p
          case h1x8p => (simp only [List.getElem?_toArray, List.getElem?_cons_succ, List.getElem?_cons_zero]; rfl)
          case hsx8p => kernel_rfl
          case hfx8p => kernel_rfl
          case hrx8p => kernel_rfl
          case hQx8p => exact fun _ _ _ h => h
          case hwx8p => rfl
          case hyx8p =>
            intro W hW
            go_simp
            try with_reducible rfl
          simp only [Act.put, List.setIfInBounds_toArray, List.set_cons_succ, List.set_cons_zero]
          refine' wpAnyH_take (i := 9) ?h1x9p ?hsx9p ?hfx9p ?hrx9p ?hQx9p (Or.inl ⟨?hwx9p, ?hyx9p⟩) hS ?restx9p
          case h1x9p => (simp only [List.getElem?_toArray, List.getElem?_cons_succ, List.getElem?_cons_zero]; rfl)
          case hsx9p => kernel_rfl
          case hfx9p => kernel_rfl
          case hrx9p => kernel_rfl
          case hQx9p => exact fun _ _ _ h => h
          case hwx9p => rfl
          case hyx9p =>
            intro W hW
            go_simp
            try with_reducible rfl
          simp only [Act.put, List.setIfInBounds_toArray, List.set_cons_succ, List.set_cons_zero]
          refine' wpAnyH_take (i := 10) ?h1x10p ?hsx10p ?hfx10p ?hrx10p ?hQx10p (Or.inl ⟨?hwx10p, ?hyx10p⟩) hS ?restx10p
          case h1x10p => (simp only [List.getElem?_toArray, List.getElem?_cons_succ, List.getElem?_cons_zero]; rfl)
          case hsx10p => kernel_rfl
          case hfx10p => kernel_rfl
          case hrx10p => kernel_rfl
          case hQx10p => exact fun _ _ _ h => h
          case hwx10p => rfl
          case hyx10p =>
            intro W hW
            go_simp
            try with_reducible rfl
          simp only [Act.put, List.setIfInBounds_toArray, List.set_cons_succ, List.set_cons_zero]
          refine' wpAnyH_take (i := 11) ?h1x11p ?hsx11p ?hfx11p ?hrx11p ?hQx11p (Or.inl ⟨?hwx11p, ?hyx11p⟩) hS ?restx11p
          case h1x11p => (simp only [List.getElem?_toArray, List.getElem?_cons_succ, List.getElem?_cons_zero]; rfl)
          case hsx11p => kernel_rfl
          case hfx11p => kernel_rfl
          case hrx11p => kernel_rfl
          case hQx11p => exact fun _ _ _ h => h
          case hwx11p => rfl
          case hyx11p =>
            intro W hW
            have dd := (hW.1.cell (p := ⟨b, o + j, none⟩) LB.out).trans C1.out
            go_simp
            try with_reducible rfl
          simp only [Act.put, List.setIfInBounds_toArray, List.set_cons_succ, List.set_cons_zero]
          refine wpAnyH_ready (rs := [12]) (by kernel_rfl) (by simp) ?_
          refine' AllReadyH.cons ?hoc12p (fun K hK => ?stc12p) AllReadyH.nil
          case hoc12p => (simp only [List.getElem?_toArray, List.getElem?_cons_succ, List.getElem?_cons_zero]; rfl)
          go_simp
          refine (RM.out _).mono ?_
          rintro e w' ⟨rfl, rfl⟩
          go_wp2_with fail
          refine hK.out _ _ hS (fun hHeld => ?_)
          clear hK K
          try simp only [Act.put, List.setIfInBounds_toArray, List.set_cons_succ, List.set_cons_zero]
          clear hS
          have hS := hHeld
          clear hHeld
          refine' wpAnyH_take (i := 13) ?h1x13p ?hsx13p ?hfx13p ?hrx13p ?hQx13p (Or.inl ⟨?hwx13p, ?hyx13p⟩) hS ?restx13p
          case h1x13p => (simp only [List.getElem?_toArray, List.getElem?_cons_succ, List.getElem?_cons_zero]; rfl)
          case hsx13p => kernel_rfl
          case hfx13p => kernel_rfl
          case hrx13p => kernel_rfl
          case hQx13p => exact fun _ _ _ h => h
          case hwx13p => rfl
          case hyx13p =>
            intro W hW
            have dd := X8.out
            go_simp
            try with_reducible rfl
          simp only [Act.put, List.setIfInBounds_toArray, List.set_cons_succ, List.set_cons_zero]
          refine' wpAnyH_take (i := 14) ?h1x14p ?hsx14p ?hfx14p ?hrx14p ?hQx14p (Or.inl ⟨?hwx14p, ?hyx14p⟩) hS ?restx14p
          case h1x14p => (simp only [List.getElem?_toArray, List.getElem?_cons_succ, List.getElem?_cons_zero]; rfl)
          case hsx14p => kernel_rfl
          case hfx14p => kernel_rfl
          case hrx14p => kernel_rfl
          case hQx14p => exact fun _ _ _ h => h
          case hwx14p => rfl
          case hyx14p =>
            intro W hW
            go_simp
            try with_reducible rfl
          simp only [Act.put, List.setIfInBounds_toArray, List.set_cons_succ, List.set_cons_zero]
          refine wpAnyH_done (by kernel_rfl) ?_ _
          go_wp2_with fail
          go_roundw
          case rel => exact ⟨k + 1, by omega, by go_num, by rw [CA.out], hS.2, hS.1⟩
          case measure => simp [intOf]; omega
        · obtain rfl : k = 4 := by omega
          have cl := cacc_lt (xs := xs) HF.out i 4
          obtain ⟨q1, c1, w1, hrun, ho1, hb1⟩ := ho.push (x := cacc f xs i 4) cl (by rw [tab_len]; omega) hb.size
          rw [← tab_succ i (fun i => cacc f xs i 4), tab_len] at ho1
          rw [tab_len] at hrun
          have HO1 := Lib.hid ho1
          have HR := Lib.hid hrun
          have HB1 := Lib.hid (hb.trans hb1)
          clear ho1 hrun hb1 ho hb cl
          generalize cacc f xs i 4 = z at *
          go_wp2_with (at_builtin; refine wpList_app rfl _ _ rfl rfl rfl rfl HR.out ?_)
          go_roundw
          case rel => exact ⟨i + 1, q1, c1, by omega, by go_num, rfl, HO1.out, HB1.out⟩
          case measure => simp [intOf]; omega
    · obtain rfl : i = 4 := by omega
      have HO : Hid (Own wr w.heap.size (.slice q 4 cp) (coll f xs)) := ho
      have HB := Lib.hid hb
      clear ho hb
      go_wp2_with fail
      go_ret
      unfold OwnP
      rw [hl.out]
      exact ⟨q, cp, rfl, HO.out, HB.out⟩
end Go.Proofs.Ytekffhopmicalaa
