/-
  For all pairs of epochs and of bytes the law KeysOnce of package casematelaw21 returns true: a counter tells no stamp twice, and none of another epoch's counter; stamps rise, and have their epoch. Condition: none.
-/
import Derived.Test.YtpkeofioobmmoaaDoorKQ
import Derived.Test.YtpkeofioobmmoaaDoorAeSE
import Derived.Test.YtpkeofioobmmoaaDoorShLaid
import Derived.Test.YtpkeofioobmmoaaDoorAeX
import Derived.Deep.QuietTactic
import Derived.BigQuiet
namespace Go.Proofs.YtpkeofioobmmoaaDoor.keysOnce
open Go.ChangeShapes Go.WideShapes Go.ChangeAt Go.RowKit Go.Proofs.YtpkeofioobmmoaaDoor.ae
theorem info22 : (Tryd.prog.info? 22).map (fun i => (i.zero, i.size, i.bytes)) = some (some (.int .u64 0), 1, 8) := by kernel_rfl
theorem land63 (n : Nat) (hn : n ≤ 255) : bits .and .u8 (n : Int) 63 = ((n % 64 : Nat) : Int) := by
  have := and8 n 63 (by omega) (by omega)
  rw [show Nat.land n 63 = n % 64 from Nat.and_two_pow_sub_one_eq_mod n 6] at this
  exact this
theorem else_grown {w w' : World} {g : Nat} (h : Elsewhere g w w') : w.grownBy w' (some g) := by
  have b := h.2.1 0 w (Nat.zero_le _) (Nat.zero_le _) (Below.refl _ _)
  exact ⟨b.os, b.tape, b.output, h.2.2, fun j hj hne => h.1 j hj (fun e => hne (by rw [e]))⟩
/-- The stamps of an epoch, from the first one on. -/
def fs (a : Nat) (i : Nat) : Nat := stm a (i + 1)
set_option maxRecDepth 100000 in
set_option maxHeartbeats 1000000 in
theorem walkNo (a b : Nat) (n m : Int) (h : 16777215 < a ∨ 16777215 < b) (w : World) (hG : sh.Glob w) :
    Calls Tryd.prog 5 #[.int .u64 a, .int .u64 b, .int .u8 n, .int .u8 m] w fun x w' => x = .returned (.bool true) ∧ Below w.heap.size w w' := by
  have AL : Hid (∀ W : World, sh.Glob W → Calls Tryd.prog 16 #[] W fun e w' => e = .returned (.bool true) ∧ Below W.heap.size W w') := fun W hg => alive21 W hg
  have CA : Hid (∀ (e : Nat) (W : World), ∃ (p : Option Addr) (E : Int), ((16777215 < e → (E == 0) = false ∧ (E != 0) = true) ∧ (¬ 16777215 < e → (E == 0) = true ∧ (E != 0) = false)) ∧ Calls Tryd.prog 15 #[.int .u64 e] W fun x w' => x = .returned (.tuple #[.pointer p, .int .i64 E]) ∧ Below W.heap.size W w') := fun e W => by
    by_cases h : 16777215 < e
    · exact ⟨none, 5, ⟨fun _ => ⟨rfl, rfl⟩, fun k => absurd h k⟩, (countNo e h W).mono fun _ _ ⟨h1, h2⟩ => ⟨h1, by rw [← h2]; exact Below.refl _ _⟩⟩
    · exact ⟨_, 0, ⟨fun k => absurd k h, fun _ => ⟨rfl, rfl⟩⟩, (countOK e (by omega) W).mono fun _ _ ⟨h1, _, h2⟩ => ⟨h1, h2⟩⟩
  have HG := Lib.hid hG
  clear hG
  have key : ∀ (hz : 16777215 < a ∨ (¬ 16777215 < a ∧ 16777215 < b)), Calls Tryd.prog 5 #[.int .u64 a, .int .u64 b, .int .u8 n, .int .u8 m] w fun x w' => x = .returned (.bool true) ∧ Below w.heap.size w w' := by
    clear h
    intro hz
    have HZ := Lib.hid hz
    clear hz
    go_enter Tryd.func5, Tryd.ntmps5
    go_wp2_with fail
    obtain ⟨p1, E1, ⟨y1, z1⟩, ca⟩ := CA.out a w
    refine ca.mono ?_
    rintro e w1 ⟨rfl, hb1⟩
    have B1 := Lib.hid hb1
    have Y1 := Lib.hid y1
    have Z1 := Lib.hid z1
    clear hb1 ca y1 z1
    go_wp2_with fail
    obtain ⟨p2, E2, ⟨y2, z2⟩, cb⟩ := CA.out b w1
    refine cb.mono ?_
    rintro e w2 ⟨rfl, hb2⟩
    have B2 := Lib.hid (B1.out.trans (hb2.mono B1.out.size))
    have Y2 := Lib.hid y2
    have G2 := Lib.hid (HG.out.below B2.out HG.out.lt)
    clear hb2 cb y2 z2
    rcases HZ.out with h | ⟨h, k⟩
    · obtain ⟨t1, t2⟩ := Y1.out h
      clear h
      go_wp2_with fail
      refine (AL.out _ G2.out).mono ?_
      rintro e w3 ⟨rfl, hb3⟩
      have B3 := Lib.hid (B2.out.trans (hb3.mono B2.out.size))
      clear hb3
      go_wp2_with fail
      go_ret
      exact ⟨rfl, B3.out⟩
    · obtain ⟨t1, t2⟩ := Z1.out h
      obtain ⟨t3, t4⟩ := Y2.out k
      clear h k
      go_wp2_with fail
      refine (AL.out _ G2.out).mono ?_
      rintro e w3 ⟨rfl, hb3⟩
      have B3 := Lib.hid (B2.out.trans (hb3.mono B2.out.size))
      clear hb3
      go_wp2_with fail
      go_ret
      exact ⟨rfl, B3.out⟩
  by_cases h1 : 16777215 < a
  · exact key (.inl h1)
  · exact key (.inr ⟨h1, by omega⟩)
def LSp (w : World) (q : Option Addr) (n : Nat) (f : Nat → Nat) (lo hi : Nat) : Prop :=
  0 < n → ∃ g, q = some ⟨g, 0, none⟩ ∧ lo ≤ g ∧ g < hi ∧ ∀ i, i < n → w.cell? ⟨g, i, none⟩ = some (.int .u64 (f i : Nat))
theorem LSp.of_own {w : World} {q : Option Addr} {n cap lo : Nat} {f : Nat → Nat} (h : OwnK .u64 22 w lo (.slice q n cap) (rowOf f n)) : LSp w q n f lo w.heap.size := fun h0 => by
  obtain ⟨g, c, hv, hg, _, _, hc⟩ := h.cells (by rw [rowOf_len]; exact h0)
  simp only [Value.slice.injEq] at hv
  have hc0 := hc 0 (by rw [rowOf_len]; exact h0)
  refine ⟨g, hv.1, hg, World.block_lt_of_cell? w _ hc0, fun i hi => ?_⟩
  rw [hc i (by rw [rowOf_len]; exact hi), rowOf_nth _ _ _ hi]
theorem LSp.below {w w' : World} {q : Option Addr} {n lo hi : Nat} {f : Nat → Nat} (h : LSp w q n f lo hi) (hb : Below hi w w') : LSp w' q n f lo hi := fun h0 => by
  obtain ⟨g, e, h1, h2, h3⟩ := h h0
  exact ⟨g, e, h1, h2, fun i hi => by rw [hb.cell (p := ⟨g, i, none⟩) h2]; exact h3 i hi⟩
theorem LSp.other {w w' : World} {q : Option Addr} {n lo hi g0 : Nat} {f : Nat → Nat} (h : LSp w q n f lo hi) (he : Elsewhere g0 w w') (hg : g0 < lo) : LSp w' q n f lo hi := fun h0 => by
  obtain ⟨g, e, h1, h2, h3⟩ := h h0
  refine ⟨g, e, h1, h2, fun i hi => ?_⟩
  rw [World.cell?_of_block (a := ⟨g, i, none⟩) (he.1 g (World.block_lt_of_cell? w _ (h3 i hi)) (by omega))]
  exact h3 i hi
set_option maxRecDepth 100000 in
set_option maxHeartbeats 16000000 in
theorem walk (a b n m : Nat) (ha : a ≤ 16777215) (hb : b ≤ 16777215) (hn : n ≤ 255) (hm : m ≤ 255) (w : World) (hG : sh.Glob w) :
    Calls Tryd.prog 5 #[.int .u64 a, .int .u64 b, .int .u8 n, .int .u8 m] w fun x w' => x = .returned (.bool true) ∧ Below w.heap.size w w' := by
  have AL : Hid (∀ W : World, sh.Glob W → Calls Tryd.prog 16 #[] W fun e w' => e = .returned (.bool true) ∧ Below W.heap.size W w') := fun W hg => alive21 W hg
  have CA : Hid (∀ W : World, Calls Tryd.prog 15 #[.int .u64 a] W fun x w' => x = .returned (.tuple #[.pointer (some ⟨W.heap.size, 0, none⟩), .int .i64 0]) ∧ CT w' W.heap.size a 0 ∧ Below W.heap.size W w') := fun W => countOK a ha W
  have CB : Hid (∀ W : World, Calls Tryd.prog 15 #[.int .u64 b] W fun x w' => x = .returned (.tuple #[.pointer (some ⟨W.heap.size, 0, none⟩), .int .i64 0]) ∧ CT w' W.heap.size b 0 ∧ Below W.heap.size W w') := fun W => countOK b hb W
  have NX : Hid (∀ (W : World) (g e j : Nat), e ≤ 16777215 → j ≤ 100 → CT W g e j → Calls Tryd.prog 17 #[.pointer (some ⟨g, 0, none⟩)] W fun x w' => x = .returned (.tuple #[.int .u64 (fs e j : Nat), .int .i64 0]) ∧ CT w' g e (j + 1) ∧ Elsewhere g W w') := fun W g e j h1 h2 h => nextC g e j h1 (by omega) W h
  have PT : Hid (∀ (W : World) (j : Nat), j ≤ 100 → Calls Tryd.prog 14 #[.int .u64 (fs a j : Nat)] W fun x w' => x = .returned (.tuple #[.int .u64 a, .int .u64 (j + 1 : Nat)]) ∧ W = w') := fun W j h => by
    have := partsC (fs a j) (by unfold fs stm; omega) W
    rw [show fs a j / 1099511627776 = a by unfold fs stm; omega, show fs a j % 1099511627776 = j + 1 by unfold fs stm; omega] at this
    exact this
  have RISE : Hid (∀ j, fs a j < fs a (j + 1)) := fun j => by unfold fs stm; omega
  have APART : Hid (a ≠ b → ∀ i j, i ≤ 100 → j ≤ 100 → fs a i ≠ fs b j) := fun h i j h1 h2 => by unfold fs stm; omega
  have hnd := land63 n hn
  have hmd := land63 m hm
  obtain ⟨n1, hn1⟩ : ∃ n1, n1 = n % 64 := ⟨_, rfl⟩
  obtain ⟨m1, hm1⟩ : ∃ m1, m1 = m % 64 := ⟨_, rfl⟩
  rw [← hn1] at hnd
  rw [← hm1] at hmd
  have hn63 : n1 ≤ 63 := by omega
  have hm63 : m1 ≤ 63 := by omega
  have hni : (n1 : Int) ≤ 63 := by omega
  have hmi : (m1 : Int) ≤ 63 := by omega
  have wn : IntKind.i64.wrap (n1 : Int) = (n1 : Int) := IntWalk.i64_in _ (by omega)
  have wm : IntKind.i64.wrap (m1 : Int) = (m1 : Int) := IntWalk.i64_in _ (by omega)
  have HND := Lib.hid hnd
  have HMD := Lib.hid hmd
  have HN := Lib.hid hn63
  have HM := Lib.hid hm63
  have HA := Lib.hid ha
  have HBB := Lib.hid hb
  have HG := Lib.hid hG
  clear ha hb hn hm hG hn1 hm1 hn63 hm63 hnd hmd
  go_enter Tryd.func5, Tryd.ntmps5
  go_wp2_with fail
  refine (CA.out _).mono ?_
  rintro e w1 ⟨rfl, hct, hb⟩
  have C1 := Lib.hid hct
  have B1 := Lib.hid hb
  clear hct hb
  go_wp2_with fail
  refine (CB.out _).mono ?_
  rintro e w2 ⟨rfl, hct, hb⟩
  have C2 := Lib.hid hct
  have C1' := Lib.hid (C1.out.below hb)
  have B2 := Lib.hid (B1.out.trans (hb.mono B1.out.size))
  have L12 : Hid (w.heap.size < w1.heap.size) := blk_lt C1.out
  clear hct hb C1 B1 CA CB
  go_wp2_with fail
  obtain ⟨gx, hgx⟩ : ∃ gx, gx = w.heap.size := ⟨_, rfl⟩
  obtain ⟨gy, hgy⟩ : ∃ gy, gy = w1.heap.size := ⟨_, rfl⟩
  rw [← hgx] at C1' L12 ⊢
  rw [← hgy] at C2 L12 ⊢
  have HGX := Lib.hid hgx
  clear hgx hgy
  obtain ⟨B, hB⟩ : ∃ B, B = w2.heap.size := ⟨_, rfl⟩
  have LB : Hid (gy < B) := by rw [hB]; exact blk_lt C2.out
  have HBE := Lib.hid hB
  clear hB
  go_loopw [13, 15, 16, 17, 18, 19] (fun v vi _ _ _ _ wr => ∃ (k : Nat) (q : Option Addr) (cap : Nat), k ≤ n1 ∧ vi = .int .i64 (k : Int) ∧ v = .slice q k cap ∧ OwnK .u64 22 wr B (.slice q k cap) (rowOf (fs a) k) ∧ CT wr gx a k ∧ CT wr gy b 0 ∧ Below gx w wr ∧ B ≤ wr.heap.size) (fun _ vi _ _ _ _ _ => 70 - (intOf vi).toNat)
  case atStart => exact ⟨0, none, 0, by omega, rfl, rfl, ownk_nil _ _ _ _, C1'.out, C2.out, by rw [HGX.out]; exact B2.out, by rw [HBE.out]; exact Nat.le_refl _⟩
  case round =>
    clear C1' C2 B2 HBE
    obtain ⟨k, q, cap, hk, rfl, rfl, ho, hc1, hc2, hbel, hsz⟩ := hrel
    have hnd := HND.out
    by_cases hlt : k < n1
    · have hj : (k : Int) < (n1 : Int) := by omega
      have hk0 : (0 : Int) ≤ (k : Int) := by omega
      have hk63 : (k : Int) ≤ 62 := by omega
      have nx := NX.out wr gx a k HA.out (by have := HN.out; omega) hc1
      have NXJ := Lib.hid nx
      have PTJ : Hid (∀ W : World, Calls Tryd.prog 14 #[.int .u64 (fs a k : Nat)] W fun x w' => x = .returned (.tuple #[.int .u64 a, .int .u64 (k + 1 : Nat)]) ∧ W = w') := fun W => PT.out W k (by have := HN.out; omega)
      have H2 := Lib.hid hlt
      have HO := Lib.hid ho
      have C2 := Lib.hid hc2
      have C10 := Lib.hid hc1
      have BE := Lib.hid hbel
      have SZ := Lib.hid hsz
      clear nx hk hlt ho hc1 hc2 hbel hsz
      go_wp2_with fail
      refine NXJ.out.mono ?_
      rintro e w3 ⟨rfl, hct, hel⟩
      have hno : (Value.slice q k cap).ownBlock ≠ some gx := fun e => by have h1 := (World.ownsRow.lt HO.out gx e).1; have h2 := LB.out; have h3 := L12.out; omega
      have HO3 := Lib.hid (HO.out.grown (else_grown hel) (.inr hno))
      have C1 := Lib.hid hct
      have C2 := Lib.hid ((hel.1 gy (blk_lt C2.out) (by have h3 := L12.out; omega)).trans C2.out)
      have BE := Lib.hid (hel.2.1 gx w (Nat.le_refl _) (by have := blk_lt C10.out; omega) BE.out)
      have SZ := Lib.hid (Nat.le_trans SZ.out hel.2.2)
      clear hct hel hno NXJ HO C10
      go_wp2_with fail
      refine (PTJ.out _).mono ?_
      rintro e w4 ⟨rfl, rfl⟩
      obtain ⟨q1, c1, w5, hr, ho1, hb1, _⟩ := OwnK.push Tryd.underlying46 info22 (Nat.le_refl 8) HO3.out (by rw [rowOf_len]; omega) SZ.out ((fs a k : Nat) : Int)
      rw [← rowOf_succ, rowOf_len] at ho1
      rw [rowOf_len] at hr
      have HR := Lib.hid hr
      have HO1 := Lib.hid ho1
      have C1b := Lib.hid ((hb1.block gx (by have h2 := LB.out; have h3 := L12.out; omega)).trans C1.out)
      have C2b := Lib.hid ((hb1.block gy LB.out).trans C2.out)
      have BEb := Lib.hid (BE.out.trans (hb1.mono (by have h2 := LB.out; have h3 := L12.out; omega)))
      have SZb := Lib.hid (Nat.le_trans SZ.out hb1.size)
      have aa : ((a : Int) != (a : Int)) = false := by simp
      clear hr ho1 hb1 C1 C2 BE SZ PTJ hnd
      rcases Nat.eq_zero_or_pos k with h0 | h0
      · have t1 : ¬ (0 : Int) < (k : Int) := by omega
        clear h0 HO3
        generalize fs a k = s1 at HR
        go_wp2_with (at_builtin; refine wpList_appK 46 rfl _ _ rfl rfl rfl rfl HR.out ?_)
        go_roundw
        case rel => exact ⟨k + 1, q1, c1, by have := H2.out; omega, by go_num, rfl, HO1.out, C1b.out, C2b.out, BEb.out, SZb.out⟩
        case measure => have := HN.out; have := H2.out; simp [intOf]; omega
      · obtain ⟨g, cp, hv, _, _, _, hcells⟩ := HO3.out.cells (by rw [rowOf_len]; exact h0)
        obtain ⟨j, hj⟩ : ∃ j, k = j + 1 := ⟨k - 1, by omega⟩
        have hcj := hcells j (by rw [rowOf_len]; omega)
        rw [rowOf_nth _ _ _ (by omega)] at hcj
        simp only [Value.slice.injEq] at hv
        have hq := hv.1
        subst hq
        have hlt2 : ¬ ((fs a k : Nat) : Int) ≤ ((fs a j : Nat) : Int) := by rw [hj]; have := RISE.out j; omega
        have t1 : (0 : Int) < (k : Int) := by omega
        have t2 : (k : Int) - 1 = (j : Int) := by omega
        have t3 : (j : Int) < (k : Int) := by omega
        have t4 : IntKind.i64.wrap (j : Int) = (j : Int) := IntWalk.i64_in _ (by omega)
        have t5 : (0 : Int) ≤ (j : Int) := by omega
        clear hv hcells hj h0 HO3
        generalize fs a k = s1 at HR hlt2
        generalize fs a j = s0 at hcj hlt2
        go_wp2_with (at_builtin; refine wpList_appK 46 rfl _ _ rfl rfl rfl rfl HR.out ?_)
        go_roundw
        case rel => exact ⟨k + 1, q1, c1, by have := H2.out; omega, by go_num, rfl, HO1.out, C1b.out, C2b.out, BEb.out, SZb.out⟩
        case measure => have := HN.out; have := H2.out; simp [intOf]; omega
    · have HO := Lib.hid (LSp.of_own ho)
      have HLN : Hid (k = n1) := Nat.le_antisymm hk (by omega)
      have hj : ¬ (k : Int) < (n1 : Int) := by omega
      have hmd := HMD.out
      have C10 := Lib.hid hc1
      have C2 := Lib.hid hc2
      have BE := Lib.hid hbel
      have SZ := Lib.hid hsz
      clear ho hc1 hc2 hbel hsz hk hlt
      go_wp2_with fail
      clear hnd
      obtain ⟨B2, hB2⟩ : ∃ B2, B2 = wr.heap.size := ⟨_, rfl⟩
      have HB2 := Lib.hid hB2
      rw [← hB2] at HO
      clear hB2
      have BB2 : Hid (B ≤ B2) := by rw [HB2.out]; exact SZ.out
      go_loopw [14, 20, 21, 22] (fun v vi _ _ wr => ∃ (j : Nat) (q2 : Option Addr) (cap2 : Nat), j ≤ m1 ∧ vi = .int .i64 (j : Int) ∧ v = .slice q2 j cap2 ∧ OwnK .u64 22 wr B2 (.slice q2 j cap2) (rowOf (fs b) j) ∧ CT wr gy b j ∧ LSp wr q k (fs a) B B2 ∧ Below gx w wr ∧ B2 ≤ wr.heap.size) (fun _ vi _ _ _ => 70 - (intOf vi).toNat)
      case atStart => exact ⟨0, none, 0, by omega, rfl, rfl, ownk_nil _ _ _ _, C2.out, HO.out, BE.out, by rw [HB2.out]; exact Nat.le_refl _⟩
      case round =>
        clear HO C2 BE SZ HB2
        obtain ⟨j, q2, cap2, hj2, rfl, rfl, ho, hc2, hls, hbel, hsz⟩ := hrel
        have hmd := HMD.out
        by_cases hlt : j < m1
        · have hj3 : (j : Int) < (m1 : Int) := by omega
          have hj0 : (0 : Int) ≤ (j : Int) := by omega
          have hj63 : (j : Int) ≤ 62 := by omega
          have nx := NX.out wr gy b j HBB.out (by have := HM.out; omega) hc2
          have NXJ := Lib.hid nx
          have H2 := Lib.hid hlt
          have HO := Lib.hid ho
          have C20 := Lib.hid hc2
          have BE := Lib.hid hbel
          have SZ := Lib.hid hsz
          have LS := Lib.hid hls
          clear nx hj2 hlt ho hc2 hbel hsz hls hj
          go_wp2_with fail
          refine NXJ.out.mono ?_
          rintro e w3 ⟨rfl, hct, hel⟩
          have hno : (Value.slice q2 j cap2).ownBlock ≠ some gy := fun e => by have h1 := (World.ownsRow.lt HO.out gy e).1; have h2 := LB.out; have h3 := BB2.out; omega
          have HO3 := Lib.hid (HO.out.grown (else_grown hel) (.inr hno))
          have C2 := Lib.hid hct
          have LS := Lib.hid (LS.out.other hel LB.out)
          have BE := Lib.hid (hel.2.1 gx w (by have h3 := L12.out; omega) (by have := blk_lt C20.out; have h3 := L12.out; omega) BE.out)
          have SZ := Lib.hid (Nat.le_trans SZ.out hel.2.2)
          clear hct hel hno NXJ HO C20
          obtain ⟨q1, c1, w5, hr, ho1, hb1, _⟩ := OwnK.push Tryd.underlying46 info22 (Nat.le_refl 8) HO3.out (by rw [rowOf_len]; omega) SZ.out ((fs b j : Nat) : Int)
          rw [← rowOf_succ, rowOf_len] at ho1
          rw [rowOf_len] at hr
          have HR := Lib.hid hr
          have HO1 := Lib.hid ho1
          have C2b := Lib.hid ((hb1.block gy (by have h2 := LB.out; have h3 := BB2.out; omega)).trans C2.out)
          have LSb := Lib.hid (LS.out.below hb1)
          have BEb := Lib.hid (BE.out.trans (hb1.mono (by have h2 := LB.out; have h3 := L12.out; have h4 := BB2.out; omega)))
          have SZb := Lib.hid (Nat.le_trans SZ.out hb1.size)
          clear hr ho1 hb1 C2 BE SZ LS hmd HO3
          generalize fs b j = s1 at HR
          go_wp2_with (at_builtin; refine wpList_appK 46 rfl _ _ rfl rfl rfl rfl HR.out ?_)
          go_roundw
          case rel => exact ⟨j + 1, q1, c1, by have := H2.out; omega, by go_num, rfl, HO1.out, C2b.out, LSb.out, BEb.out, SZb.out⟩
          case measure => have := HM.out; have := H2.out; simp [intOf]; omega
        · have O2 := Lib.hid (LSp.of_own ho)
          have hj3 : ¬ (j : Int) < (m1 : Int) := by omega
          have LS := Lib.hid hls
          have BE := Lib.hid hbel
          have HJM : Hid (j ≤ 63) := by have := HM.out; show _ ≤ _; omega
          have HKM : Hid (k ≤ 63) := by have := HN.out; have := HLN.out; show _ ≤ _; omega
          clear hj2 hlt ho hc2 hbel hsz hls hj NX PT RISE
          obtain ⟨hi2, hhi2⟩ : ∃ hi2, hi2 = wr.heap.size := ⟨_, rfl⟩
          rw [← hhi2] at O2
          clear hhi2
          by_cases hab : a = b
          · have tab : ((a : Int) != (b : Int)) = false := by simp [hab]
            clear hab
            go_wp2_with fail
            clear hmd
            go_loopw [23] (fun vi wr => vi = .int .i64 0 ∧ Below gx w wr) (fun _ _ => 0)
            case atStart => exact ⟨rfl, BE.out⟩
            case round =>
              clear BE O2 LS
              obtain ⟨rfl, hbel⟩ := hrel
              have BE := Lib.hid hbel
              clear hbel
              rcases Nat.eq_zero_or_pos k with h0 | h0
              · have t1 : ¬ (0 : Int) < (k : Int) := by omega
                clear h0
                go_wp2_with fail
                refine (AL.out _ (HG.out.below (by have := BE.out; rw [HGX.out] at this; exact this) HG.out.lt)).mono ?_
                rintro e w9 ⟨rfl, hb⟩
                have B9 := Lib.hid (BE.out.trans (hb.mono (by have := BE.out.size; have := HGX.out; omega)))
                clear hb
                go_wp2_with fail
                go_ret
                exact ⟨rfl, by rw [← HGX.out]; exact B9.out⟩
              · have t1 : (0 : Int) < (k : Int) := by omega
                clear h0
                go_wp2_with fail
                refine (AL.out _ (HG.out.below (by have := BE.out; rw [HGX.out] at this; exact this) HG.out.lt)).mono ?_
                rintro e w9 ⟨rfl, hb⟩
                have B9 := Lib.hid (BE.out.trans (hb.mono (by have := BE.out.size; have := HGX.out; omega)))
                clear hb
                go_wp2_with fail
                go_ret
                exact ⟨rfl, by rw [← HGX.out]; exact B9.out⟩
          · have tab : ((a : Int) != (b : Int)) = true := by simp; omega
            have APT : Hid (∀ i j, i ≤ 100 → j ≤ 100 → fs a i ≠ fs b j) := APART.out hab
            clear hab APART
            go_wp2_with fail
            clear hmd
            go_loopw [23, 24] (fun vi _ wr => ∃ i : Nat, i ≤ k ∧ vi = .int .i64 (i : Int) ∧ LSp wr q k (fs a) B B2 ∧ LSp wr q2 j (fs b) B2 hi2 ∧ Below gx w wr) (fun vi _ _ => 70 - (intOf vi).toNat)
            case atStart => exact ⟨0, by omega, rfl, LS.out, O2.out, BE.out⟩
            case round =>
              clear BE O2 LS
              obtain ⟨i, hi, rfl, hl1, hl2, hbel⟩ := hrel
              by_cases hik : i < k
              · have t1 : (i : Int) < (k : Int) := by omega
                have t2 : (0 : Int) ≤ (i : Int) := by omega
                have L1 := Lib.hid hl1
                have L2 := Lib.hid hl2
                have BE := Lib.hid hbel
                have HIK := Lib.hid hik
                obtain ⟨g1, hq1, _, _, hcs⟩ := hl1 (by omega)
                subst hq1
                clear hl1 hl2 hbel hi hik hcs
                go_wp2_with fail
                obtain ⟨wo, rfl⟩ : ∃ wo : World, wo = wr := ⟨_, rfl⟩
                go_loopw [24] (fun vi wr => ∃ t : Nat, t ≤ j ∧ vi = .int .i64 (t : Int) ∧ LSp wr (some ⟨g1, 0, none⟩) k (fs a) B B2 ∧ LSp wr q2 j (fs b) B2 hi2 ∧ Below gx w wr) (fun vi _ => 70 - (intOf vi).toNat)
                case atStart => exact ⟨0, by omega, rfl, L1.out, L2.out, BE.out⟩
                case round =>
                  clear L1 L2 BE
                  obtain ⟨t, ht, rfl, hl1, hl2, hbel⟩ := hrel
                  have L1 := Lib.hid hl1
                  have L2 := Lib.hid hl2
                  have BE := Lib.hid hbel
                  by_cases htj : t < j
                  · have t3 : (t : Int) < (j : Int) := by omega
                    have t4 : (0 : Int) ≤ (t : Int) := by omega
                    have t5 : (t : Int) ≤ 62 := by have := HJM.out; omega
                    obtain ⟨g1', hq1, _, _, hcs⟩ := hl1 (by have := HIK.out; omega)
                    obtain ⟨g2, hq2, _, _, hds⟩ := hl2 (by omega)
                    simp only [Option.some.injEq, Addr.mk.injEq, and_true] at hq1
                    subst hq1
                    subst hq2
                    have ca := fun n => show (wr.drewN n).cell? ⟨g1, i, none⟩ = _ from hcs i HIK.out
                    have cb := fun n => show (wr.drewN n).cell? ⟨g2, t, none⟩ = _ from hds t htj
                    have ne : (((fs a i : Nat) : Int) == ((fs b t : Nat) : Int)) = false := by
                      have := APT.out i t (by have := HIK.out; have := HKM.out; omega) (by have := HJM.out; omega)
                      simp; omega
                    have HTJ := Lib.hid htj
                    generalize fs a i = s1 at ca ne
                    generalize fs b t = s2 at cb ne
                    clear hl1 hl2 hbel ht htj hcs hds
                    go_wp2_with fail
                    go_quiet (fail)
                    clear ca cb ne
                    go_wp2_with fail
                    go_roundw
                    case rel => exact ⟨t + 1, by have := HTJ.out; omega, by go_num, L1.out, L2.out, ⟨BE.out.os, BE.out.tape, BE.out.output, BE.out.size, BE.out.block⟩⟩
                    case measure => have := HTJ.out; have := HJM.out; simp [intOf]; omega
                  · have t3 : ¬ (t : Int) < (j : Int) := by omega
                    have t6 : (i : Int) ≤ 62 := by have := HIK.out; have := HKM.out; omega
                    clear hl1 hl2 hbel ht htj
                    go_wp2_with fail
                    go_roundw
                    case rel => exact ⟨i + 1, by have := HIK.out; omega, by go_num, L1.out, L2.out, BE.out⟩
                    case measure => have := HIK.out; have := HKM.out; simp [intOf]; omega
              · have t1 : ¬ (i : Int) < (k : Int) := by omega
                have BE := Lib.hid hbel
                clear hl1 hl2 hbel hi hik
                go_wp2_with fail
                refine (AL.out _ (HG.out.below (by have := BE.out; rw [HGX.out] at this; exact this) HG.out.lt)).mono ?_
                rintro e w9 ⟨rfl, hb⟩
                have B9 := Lib.hid (BE.out.trans (hb.mono (by have := BE.out.size; have := HGX.out; omega)))
                clear hb
                go_wp2_with fail
                go_ret
                exact ⟨rfl, by rw [← HGX.out]; exact B9.out⟩
theorem all (a b : Nat) (n m : Int) (hn : 0 ≤ n ∧ n ≤ 255) (hm : 0 ≤ m ∧ m ≤ 255) (w : World) (hG : sh.Glob w) :
    Calls Tryd.prog 5 #[.int .u64 a, .int .u64 b, .int .u8 n, .int .u8 m] w fun x w' => x = .returned (.bool true) ∧ Below w.heap.size w w' := by
  by_cases h : a ≤ 16777215 ∧ b ≤ 16777215
  · obtain ⟨n, rfl⟩ : ∃ k : Nat, n = k := ⟨n.toNat, by omega⟩
    obtain ⟨m, rfl⟩ : ∃ k : Nat, m = k := ⟨m.toNat, by omega⟩
    exact walk a b n m h.1 h.2 (by omega) (by omega) w hG
  · exact walkNo a b n m (by omega) w hG

set_option maxRecDepth 100000 in
theorem lifted (os : Os) (started : os.Started) (H : Type) (enc : TypeId × Value → H) :
    ReturnsInHanded {} Tryd.checked os 5 .any (fun w args => (Rows.keysOnceSpec.pre enc Tryd.prog Tryd.f5 [] false w args ∧ laidMetH Tryd.prog sh.laid2 w) ∧ sizedMet enc Tryd.prog Tryd.f5 (OpenSpec.ofChange Rows.keysOnceSpec) false w args)
      (Rows.keysOnceSpec.post enc Tryd.prog Tryd.f5 false true false false) := by
  refine returnsInHanded_of_change_and (C := Tryd.checked) (X := fun w _ => laidMetH Tryd.prog sh.laid2 w) (fun _ _ _ hh h => h.of_heap hh) sh.own started (by kernel_rfl) Tryd.func5
    (ChangeSpec.witness_shaped (enc := enc) (C := Tryd.checked) (os := os) (X := fun w _ => laidMetH Tryd.prog sh.laid2 w) false (World.doorLaid Tryd.prog 400 os) #[.int .u64 0, .int .u64 0, .int .u8 0, .int .u8 0] 8 rfl (World.shaped_of_RefB (by kernel_rfl) (by kernel_rfl)) (by kernel_rfl) (by kernel_rfl) (by kernel_rfl) (sh.door_met os _)) ?_
  intro W base args ds gs before hval0 hW _ _ hL _
  have hval : ∀ (j : Nat) t v, Tryd.f5.params[j]? = some t → args[j]? = some v → Value.okWide Tryd.prog W .any base t v := hval0
  have hW' := hW
  obtain ⟨p, q, hA0, hV, rfl, hfz, hnd⟩ := hW
  have hA : DataW.TrodAll enc Tryd.prog W 0 (fun _ => true) true Tryd.f5.params.toList args.toList ds p := hA0
  rw [Tryd.params5] at hA hval
  obtain ⟨v0, vs0, d0, ds0, p0, q0, hargs, rfl, rfl, h0, r0⟩ := trodAll_cons hA
  obtain ⟨v1, vs1, d1, ds1, p1, q1, rfl, rfl, rfl, h1, r1⟩ := trodAll_cons r0
  obtain ⟨v2, vs2, d2, ds2, p2, q2, rfl, rfl, rfl, h2, r2⟩ := trodAll_cons r1
  obtain ⟨v3, vs3, d3, ds3, p3, q3, rfl, rfl, rfl, h3, r3⟩ := trodAll_cons r2
  obtain ⟨rfl, rfl, rfl⟩ := trodAll_nil r3
  obtain rfl : args = #[v0, v1, v2, v3] := by cases args; simp_all
  obtain ⟨rfl, rfl⟩ := trodVars_none hV
  obtain ⟨a0, rfl, rfl, rfl, w0⟩ := open_int Tryd.underlying22 (hval 0 22 v0 rfl rfl) h0
  have b0 := bounds_u64 w0
  obtain ⟨n0, rfl⟩ : ∃ n : Nat, a0 = n := ⟨a0.toNat, by omega⟩
  obtain ⟨a1, rfl, rfl, rfl, w1⟩ := open_int Tryd.underlying22 (hval 1 22 v1 rfl rfl) h1
  have b1 := bounds_u64 w1
  obtain ⟨n1, rfl⟩ : ∃ n : Nat, a1 = n := ⟨a1.toNat, by omega⟩
  obtain ⟨a2, rfl, rfl, rfl, w2⟩ := open_int Tryd.underlying5 (hval 2 5 v2 rfl rfl) h2
  have b2 := bounds_u8 w2
  obtain ⟨a3, rfl, rfl, rfl, w3⟩ := open_int Tryd.underlying5 (hval 3 5 v3 rfl rfl) h3
  have b3 := bounds_u8 w3
  refine (all n0 n1 a2 a3 b2 b3 W (sh.of_laid hL)).mono fun e W' ⟨he, hb⟩ => ?_
  subst he
  exact ⟨_, rfl, sh.law_post hW' rfl rfl rfl (by kernel_rfl) hb⟩
/-- The row's statement. -/
theorem row_holds : Rows.KeysOnceSaid :=
  OpenClaim.holds_of_wide 5 Tryd.f5 rfl rfl rfl rfl rfl rfl rfl ⟨rfl, rfl, rfl, rfl, rfl⟩ rfl rfl rfl rfl rfl (by kernel_rfl) Tryd.func5 (by kernel_rfl)
    (of_decide_eq_true (by kernel_rfl)) (by unfold Func.isWrapper; first | (rw [if_pos (by decide +kernel)]; kernel_rfl) | (rw [if_neg (by decide +kernel)]; exact ⟨rfl, rfl⟩))
    (fun os started H enc _ => lifted os started H enc)
/-- The tied card. -/
theorem proved : Rows.KeysOnceCardSaid :=
  Claim7.holds_tied_plain_at .later [] [.data, .data] true (true, "0457159e5fbc900da0b901a90696513c7756748e29878623afbd297629de2456") false
    row_holds (fun _ h => by cases h) (by kernel_rfl) (fun _ h => by cases h) Go.Proofs.YtpkeofioobmmoaaDoor.keysOnce_row_tie rfl ⟨rfl, rfl⟩ (by kernel_rfl) rfl
    (fun f fn hf hfn => by
      obtain rfl : f = 5 := Option.some.inj ((show Tryd.prog.funcNamed "casemate/casematelaw21.KeysOnce" = some 5 by kernel_rfl).symm.trans hf) |>.symm
      obtain rfl : fn = Tryd.f5 := (Option.some.inj (Tryd.func5.symm.trans hfn)).symm
      exact ⟨by kernel_rfl, fun j t ht => by
        rw [Tryd.params5] at ht
        have hm : t ∈ [22, 22, 5, 5] := by simpa using Array.mem_of_getElem? ht
        have hall : ([22, 22, 5, 5].all fun u => !Tryd.prog.wantsStandIn u) = true := by kernel_rfl
        exact (show Tryd.prog.wantsStandIn t = false by simpa using List.all_eq_true.1 hall t hm)⟩)
    (by kernel_rfl)
#print axioms proved
end Go.Proofs.YtpkeofioobmmoaaDoor.keysOnce
