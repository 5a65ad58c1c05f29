/-
  The walk of PoolRefused. Condition: the two tables of package sha stand in memory; the play can be read.
-/
import Derived.Test.YtjdamlmoegippaaDoorPlO
namespace Go.Proofs.YtjdamlmoegippaaDoor.pl
open Go.RowKit
/-- A pool after some puts. -/
def LI (w wr : World) (A : PA) (i : Nat) : Prop :=
  ∃ (D : DS) (s : ex.St) (S : Nat → Prop) (T : List (List Int)), PW wr A D s S T ∧ (0 ≤ D.c ∧ D.c ≤ i ∧ dk.pv.PP D.pn ∧ D.K ≤ i ∧ T.length ≤ i) ∧ ((s.T 1).i = true ∧ (s.T 2).i = true) ∧ Below w.heap.size w wr
theorem chg_b {w : World} {A : PA} {D : DS} {s : ex.St} {S : Nat → Prop} {T : List (List Int)} (h : PW w A D s S T) (t : Int) : 0 ≤ ex.chg s.T t ∧ ex.chg s.T t ≤ 2048 := by
  have hf : ex.FD w A.gf A.rb A.mb A.wb A.ct s.f s.T := h.fd
  have h1 := hf.inv.cq t.toNat
  have h2 := hf.inv.rq t.toNat
  have h3 := hf.n2
  unfold ex.chg
  split <;> omega
theorem in12 {T : Nat → ex.Acc} (h : (T 1).i = true ∧ (T 2).i = true) (v : Int) (h0 : 0 ≤ v) (h1 : v ≤ 1) : ex.isIn T (1 + v) := by
  obtain rfl | rfl : v = 0 ∨ v = 1 := by omega
  · exact ⟨by decide, by decide, h.1⟩
  · exact ⟨by decide, by decide, h.2⟩
theorem fldW {w : World} {A : PA} {D : DS} {s : ex.St} {S : Nat → Prop} {T : List (List Int)} (h : PW w A D s S T) : Calls Tryd.prog 12 #[.pointer (some ⟨A.p, 0, none⟩)] w fun e w' => e = .returned (.pointer (some ⟨A.gf, 0, none⟩)) ∧ w = w' := field h.pool
theorem ne_self (a : Int) : (a != a) = false := by simp
set_option maxRecDepth 100000 in
set_option maxHeartbeats 8000000 in
theorem refused (x : Option Addr) (l c m : Nat) (w : World) (hG : hl.Glob w) (hO : OS w x l) (hm : m < 256) : Calls Tryd.prog 6 #[.slice x l c, .int .u8 (m : Int)] w (AliveP w) := by
  obtain ⟨k, hk, hk31⟩ := and31 m hm
  have hk0 : (k : Int) ≤ 31 := by omega
  have hlm : l ≤ 9223372036854775807 := by have := hO.1; unfold maxLen at this; omega
  have HO := Lib.hid hO
  have BG := Lib.hid (begin14 w hG)
  obtain ⟨Z, hZ⟩ : ∃ Z, Z = zr := ⟨_, rfl⟩
  have z := z26
  have i0 := i26
  have sz : zr.size = 33 := by kernel_rfl
  rw [← hZ] at z i0 sz
  have HZ := Lib.hid z
  have IZ := Lib.hid i0
  have SZ := Lib.hid sz
  clear hG hO hm hk31 z i0 sz hZ
  go_enter Tryd.func6, Tryd.ntmps6
  go_wp2_with fail
  refine BG.out.mono ?_
  rintro e w1 ⟨A, S, rfl, hp1, hA, hb1⟩
  have AC := Lib.hid hA
  have H1 := Lib.hid hp1
  have B1 := Lib.hid hb1
  clear hA hp1 hb1 BG
  go_wp2_with fail
  refine (failP H1.out k).mono ?_
  rintro e w2 ⟨wv, rfl, hp2, hm2⟩
  have L2 : Hid (LI w w2 A 0) := ⟨_, _, _, _, hp2, ⟨Int.le_refl 0, Int.le_refl 0, .inr ⟨by show (0 : Int) ≤ (k : Int); omega, by show (k : Int) ≤ _; omega⟩, Nat.le_refl 0, Nat.le_refl 0⟩, ⟨rfl, rfl⟩, AC.out.2.2.2 ▸ H1.out.fram (by rw [AC.out.2.2.2]; exact B1.out) hm2 (fun _ h => .inl h)⟩
  clear hp2 hm2 H1 B1
  go_wp2_with fail
  go_loopg [8, 9, 10, 11, 12, 13] (min l 50) (fun r vi _ _ _ _ _ wr => ∃ i : Nat, r + i = min l 50 ∧ vi = .int .i64 i ∧ LI w wr A i)
  case atStart => exact ⟨0, by omega, rfl, L2.out⟩
  case round =>
    clear L2
    obtain ⟨i, hr, rfl, D, s, S, T, hp, hd, hin, hb⟩ := hrel
    have HR := Lib.hid hr
    have H := Lib.hid hp
    have HD := Lib.hid hd
    have HI := Lib.hid hin
    have B := Lib.hid hb
    clear hr hp hd hin hb
    by_cases hlt : i < l
    · by_cases h50 : i < 50
      · obtain ⟨k', t', a, n', y, b, o, rfl, hbl, hy, _, ha, _, _, g2, _, g4⟩ := (HO.out.below B.out).2 i hlt
        obtain ⟨v, hv⟩ : ∃ v, v = bits .and .i64 a 1 := ⟨_, rfl⟩
        have hv01 := and1 a
        rw [← hv] at hv01
        have q0 : 0 ≤ v := by omega
        have q1 : v ≤ 1 := by omega
        have hv' : bits .and .i64 a 1 = v := hv.symm
        have IN : Hid (ex.isIn s.T (1 + v)) := in12 HI.out v q0 q1
        have CH : Hid (Calls Tryd.prog 18 #[.pointer (some ⟨A.gf, 0, none⟩), .int .i64 (1 + v)] wr fun e w' => e = .returned (.int .i64 (ex.chg s.T (1 + v))) ∧ wr = w') := chargeP H.out (1 + v)
        have SL := Lib.hid (slackP H.out)
        have cb := chg_b H.out (1 + v)
        obtain ⟨ch, hch⟩ : ∃ ch, ch = ex.chg s.T (1 + v) := ⟨_, rfl⟩
        obtain ⟨sl, hsl⟩ : ∃ sl, sl = ex.slack A.ct s.T := ⟨_, rfl⟩
        rw [← hch] at CH cb
        rw [← hsl] at SL
        have HCH := Lib.hid hch
        have HSL := Lib.hid hsl
        have HB := Lib.hid hbl
        have HY := Lib.hid hy
        have FW := Lib.hid (fldW H.out)
        have cb0 := cb.1
        have cb1 := cb.2
        clear hv hv01 hch hsl cb hbl hy ha
        go_wp2_with fail
        refine FW.out.mono ?_
        rintro e w' ⟨rfl, rfl⟩
        go_wp2_with fail
        refine CH.out.mono ?_
        rintro e w' ⟨rfl, rfl⟩
        go_wp2_with fail
        refine FW.out.mono ?_
        rintro e w' ⟨rfl, rfl⟩
        go_wp2_with fail
        refine SL.out.mono ?_
        rintro e w3 ⟨rfl, hb3⟩
        have H3 := Lib.hid (H.out.below hb3)
        have B3 := Lib.hid (B.out.trans (hb3.mono B.out.size))
        have g43 := (hb3.cell (p := ⟨b, o + i * 5 + 4, none⟩) HB.out).trans g4
        clear hb3 H B FW CH SL g2 g4
        go_wp2_with fail
        refine (fullX y w3).mono ?_
        rintro e w4 ⟨b4, rfl, hv4, hl4, hb4⟩
        have NS4 : Hid (¬ S b4) := fun e => by have := H3.out.lg.own _ e; omega
        have H4 := Lib.hid (H3.out.below hb4)
        have B4 := Lib.hid (B3.out.trans (hb4.mono B3.out.size))
        have V4 := Lib.hid hv4
        have PT : Hid (Calls Tryd.prog 7 #[.pointer (some ⟨A.p, 0, none⟩), .int .i64 (1 + v), .slice (some ⟨b4, 0, none⟩) 512 512] w4 (PutA w4 A D s S T (1 + v))) :=
          put_any H4.out (1 + v) IN.out b4 y V4.out HY.out NS4.out HD.out.2.2.1 HD.out.1 (by have := HD.out.2.1; omega) (by have := HD.out.2.2.2.1; omega) (by rw [AC.out.1, AC.out.2.1, AC.out.2.2.1]; omega) (by have := HD.out.2.2.2.2; omega)
        clear hv4 hl4 hb4 H3 B3 g43 NS4 V4
        go_wp2_with fail
        refine PT.out.mono ?_
        rintro e w5 ⟨C, zz, D', s', S', T', rfl, hC, hp5, hm5, hd5, hi5, hz5⟩
        obtain ⟨w6, hw6⟩ : ∃ w6, w6 = w5.alloc (.cells C 26) := ⟨_, rfl⟩
        have RN : Hid ((w5.alloc (.cells Z 26)).setRow w5.heap.size C = w6) := by show _ = _; rw [hw6]; exact alloc_setRowD w5 Z C 26 _ rfl
        have GN : Hid ((w5.alloc (.cells Z 26)).heap[w5.heap.size]? = some (.cells Z 26 (0, 0))) := heap_alloc_new w5 _
        have hb6 : Below w5.heap.size w5 w6 := by rw [hw6]; exact (Below.refl _ _).alloc (Nat.le_refl _) _
        have IC : Hid ((Tryd.prog.info? 26).map (·.size) = some C.size) := by show _ = _; rw [IZ.out, SZ.out, hC.1]
        have IZC : Hid (Z.size = C.size) := by show _ = _; rw [SZ.out, hC.1]
        have OC := Lib.hid hC.2
        have B5 : Below w.heap.size w w5 := AC.out.2.2.2 ▸ H4.out.fram (by rw [AC.out.2.2.2]; exact B4.out) hm5 (fun _ h => h)
        have H6 := Lib.hid (hp5.below hb6)
        have B6 := Lib.hid (B5.trans (hb6.mono B5.size))
        have FW6 := Lib.hid (fldW H6.out)
        have CH6 := Lib.hid (chargeP H6.out (1 + v))
        have SL6 := Lib.hid (slackP H6.out)
        have L6 : Hid (LI w w6 A (i + 1)) := by
          have a := HD.out
          obtain ⟨a1, a2, a3, a4, a5⟩ := hd5
          exact ⟨D', s', S', T', H6.out, ⟨a1, by omega, a3, by omega, by omega⟩, ⟨by rw [hi5]; exact HI.out.1, by rw [hi5]; exact HI.out.2⟩, B6.out⟩
        clear hC hp5 hm5 hd5 hi5 hw6 hb6 B5 H4 B4 PT HD HI H6
        rcases hz5 with ⟨rfl, hc5⟩ | ⟨hz, rfl⟩
        · rw [hc5, ← HCH.out] at CH6
          clear hc5 HCH HSL SL6
          go_wp2_with (first | (refine wpList_alloc_zD rfl 26 rfl (HZ.out _) ?_; refine wpList_store_row rfl 26 (.tmp 12) (.tmp 60) rfl w5.heap.size C rfl rfl 26 Z GN.out IC.out IZC.out OC.out ?_; rw [RN.out]))
          refine FW6.out.mono ?_
          rintro e w' ⟨rfl, rfl⟩
          go_wp2_with fail
          refine CH6.out.mono ?_
          rintro e w' ⟨rfl, rfl⟩
          have hne := ne_self (ch + 1)
          go_wp2_with fail
          go_roundg (min l 50 - (i + 1))
          case measure => have := HR.out; omega
          case rel => exact ⟨i + 1, by omega, by go_num, L6.out⟩
        · rw [← HCH.out] at CH6
          rw [← HSL.out] at SL6
          have h1 := ne_self ch
          have h2 := ne_self sl
          rcases hz with rfl | rfl | rfl
          all_goals
            clear HCH HSL
            go_wp2_with (first | (refine wpList_alloc_zD rfl 26 rfl (HZ.out _) ?_; refine wpList_store_row rfl 26 (.tmp 12) (.tmp 60) rfl w5.heap.size C rfl rfl 26 Z GN.out IC.out IZC.out OC.out ?_; rw [RN.out]))
            refine FW6.out.mono ?_
            rintro e w' ⟨rfl, rfl⟩
            go_wp2_with fail
            refine CH6.out.mono ?_
            rintro e w' ⟨rfl, rfl⟩
            go_wp2_with fail
            refine FW6.out.mono ?_
            rintro e w' ⟨rfl, rfl⟩
            go_wp2_with fail
            refine SL6.out.mono ?_
            rintro e w7 ⟨rfl, hb7⟩
            have L7 : Hid (LI w w7 A (i + 1)) := by
              obtain ⟨D1, s1, S1, T1, p1, p2, p3, p4⟩ := L6.out
              exact ⟨D1, s1, S1, T1, p1.below hb7, p2, p3, p4.trans (hb7.mono p4.size)⟩
            clear hb7 L6 FW6 CH6 SL6
            go_wp2_with fail
            go_roundg (min l 50 - (i + 1))
            case measure => have := HR.out; omega
            case rel => exact ⟨i + 1, by omega, by go_num, L7.out⟩
      · have hi : i = 50 := by have := HR.out; omega
        subst hi
        have AL := Lib.hid (alive wr H.out.gg)
        clear h50
        go_wp2_with fail
        refine AL.out.mono ?_
        rintro e w9 ⟨rfl, hb9⟩
        go_wp2_with fail
        go_ret
        exact ⟨rfl, B.out.trans (hb9.mono B.out.size)⟩
    · have hi : i = l := by have := HR.out; omega
      subst hi
      have AL := Lib.hid (alive wr H.out.gg)
      clear hlt
      go_wp2_with fail
      refine AL.out.mono ?_
      rintro e w9 ⟨rfl, hb9⟩
      go_wp2_with fail
      go_ret
      exact ⟨rfl, B.out.trans (hb9.mono B.out.size)⟩
end Go.Proofs.YtjdamlmoegippaaDoor.pl
