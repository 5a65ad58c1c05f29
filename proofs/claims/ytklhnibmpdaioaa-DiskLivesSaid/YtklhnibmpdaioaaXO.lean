/-
  For every number, every slice of ops and every sector the law DiskLives of package casematelaw11 returns true, and the arguments read afterwards as before. Condition: none.
-/
import Derived.Test.YtklhnibmpdaioaaXN
import Derived.Stop.BytesEq
namespace Go.Proofs.Ytklhnibmpdaioaa.diskLives
open Go.ChangeShapes Go.WideShapes Go.ChangeAt Go.RowKit
theorem wpAnyH_mono {P : Program} {ops : Array Oper} {Q : Exit → Act → World → Prop} {md : Region.Mode} {S S' : World → Prop} (hS : ∀ w, S' w → S w) : ∀ (fuel : Nat) (listed : Array Bool) (a : Act) (w : World), wpAnyH P md ops Q S' fuel listed a w → wpAnyH P md ops Q S fuel listed a w
  | 0, _, _, _, h => h
  | fuel + 1, _, _, _, h => ⟨h.1, fun i hi => wpOp_mono (fun a' w' h' => ⟨hS _ h'.1, wpAnyH_mono hS fuel _ a' w' h'.2⟩) (h.2 i hi)⟩
set_option maxRecDepth 100000 in
theorem eqZ (w : World) : (Op.equalIn 10000 44 (.agg (List.replicate 64 (Value.int .u8 0)).toArray) (.agg (List.replicate 64 (Value.int .u8 0)).toArray)).run Try.prog w = .ok true w := by
  have h := run_equalIn_bytes (P := Try.prog) w 9998 44 5 64 (by kernel_rfl) Try.underlying5 (fun _ => by kernel_rfl) (List.replicate 64 0) (List.replicate 64 0) (by simp) (by simp)
  have h2 : Extern.Stop.cell 0 = Value.int .u8 0 := rfl
  rw [List.map_replicate, h2] at h
  exact h.trans (by simp)
set_option maxRecDepth 100000 in
set_option maxHeartbeats 16000000 in
theorem walk (N : Nat) (h1 : 1 ≤ N) (h2 : N ≤ 65536) (x : Option Addr) (l c s : Nat) (hs : s < 4294967296) (w : World) (hx : OS3 w x l) :
    Calls Try.prog 3 #[.int .i64 N, .slice x l c, .int .u32 s] w fun e w' => e = .returned (.bool true) ∧ Below w.heap.size w w' := by
  have X := Lib.hid hx.2
  have HS := Lib.hid hs
  have hlm : l ≤ 9223372036854775807 := by have := hx.1; unfold maxLen at this; omega
  clear hx hs
  go_enter Try.func3, Try.ntmps3
  go_wp2_with fail
  refine (newD N h1 h2 w).mono ?_
  rintro e w1 ⟨g, sb, hb, rfl, hd, a1, a2, a3, hbl⟩
  have L1 : Hid (LK w w1 g N sb hb (.slice none 0 0) (fun _ => none) [] (List.replicate 64 (.int .u8 0)) 0 (-1) false 0) := ⟨hd, hbl, a1, a2, a3, fun k hk => by simp [Value.ownBlock] at hk⟩
  clear hd hbl a1 a2 a3
  go_wp2_with fail
  refine (newX N h1 h2 w1).mono ?_
  rintro e w2 ⟨q, rb, rfl, hx, hq, hbl⟩
  have O2 : Hid (OneS w g N sb hb q 0 w2) := ⟨_, _, _, _, _, _, _, _, _, _, _, ⟨L1.out.below hbl, hx, RL.nil, Nat.le_trans L1.out.b.size hq, fun j hj => by simp [Value.ownBlock] at hj⟩, by omega, by omega, by omega, by simp, .inl rfl, List.replicate 64 0, by simp, by simp⟩
  clear hx hq hbl L1
  go_wp2_with fail
  go_loopg [11] (min l 120) (fun r v11 wr => ∃ i : Nat, r + i = min l 120 ∧ v11 = .int .i64 i ∧ OneS w g N sb hb q i wr)
  case atStart => exact ⟨0, by omega, rfl, O2.out⟩
  case round =>
    clear O2
    obtain ⟨i, hr, rfl, ho⟩ := hrel
    have O := Lib.hid ho
    have HR := Lib.hid hr
    clear ho hr
    by_cases hlt : i < l ∧ i < 120
    · obtain ⟨hi1, hi2⟩ := hlt
      obtain ⟨kd, s', y, n', x', l', c', b, o, f, rfl, hbl, hs4, hy, hn', hl', hkf, c0, c1, c2, c3, c4⟩ := X.out i hi1
      have SY : Hid (s' < 4294967296 ∧ y < 256 ∧ (-9223372036854775808 ≤ n' ∧ n' ≤ 9223372036854775807) ∧ l' ≤ maxLen ∧ KF w x' l' f) := ⟨hs4, hy, hn', hl', hkf⟩
      have BW : Hid (b < w.heap.size) := hbl
      have e0 := (O.out.b.cell (p := ⟨b, o + i * 5, none⟩) hbl).trans c0
      have e1 := (O.out.b.cell (p := ⟨b, o + i * 5 + 1, none⟩) hbl).trans c1
      have e2 := (O.out.b.cell (p := ⟨b, o + i * 5 + 2, none⟩) hbl).trans c2
      have e3 := (O.out.b.cell (p := ⟨b, o + i * 5 + 3, none⟩) hbl).trans c3
      have e4 := (O.out.b.cell (p := ⟨b, o + i * 5 + 4, none⟩) hbl).trans c4
      have CC : Hid (∀ W, Below w.heap.size w W → W.cell? ⟨b, o + i * 5, none⟩ = some (.int .i64 kd) ∧ W.cell? ⟨b, o + i * 5 + 1, none⟩ = some (.int .u32 s') ∧ W.cell? ⟨b, o + i * 5 + 2, none⟩ = some (.int .u8 y) ∧ W.cell? ⟨b, o + i * 5 + 3, none⟩ = some (.int .i64 n') ∧ W.cell? ⟨b, o + i * 5 + 4, none⟩ = some (.slice x' l' c')) := fun W hW =>
        ⟨(hW.cell (p := ⟨b, o + i * 5, none⟩) hbl).trans c0, (hW.cell (p := ⟨b, o + i * 5 + 1, none⟩) hbl).trans c1, (hW.cell (p := ⟨b, o + i * 5 + 2, none⟩) hbl).trans c2, (hW.cell (p := ⟨b, o + i * 5 + 3, none⟩) hbl).trans c3, (hW.cell (p := ⟨b, o + i * 5 + 4, none⟩) hbl).trans c4⟩
      clear c0 c1 c2 c3 c4 hbl hs4 hy hn' hkf
      go_wp2_with fail
      refine (greatX kd s' y n' x' l' c' hl' _).mono ?_
      rintro e w3 ⟨rfl, hb3⟩
      have O1 := Lib.hid (O.out.below hb3)
      have HB := Lib.hid O1.out.b
      clear hb3 O e0 e1 e2 e3 e4
      by_cases hgr : 100 < l'
      · rw [decide_eq_true hgr]
        go_wp2_with fail
        refine (aliveD _).mono ?_
        rintro e w8 ⟨rfl, hb⟩
        have B8 := Lib.hid (HB.out.trans (hb.mono HB.out.size))
        clear hb
        go_wp2_with fail
        go_ret
        exact ⟨rfl, B8.out⟩
      · rw [decide_eq_false hgr]
        go_wp2_with fail
        refine wp_region_held_drew (S := fun W => Below w.heap.size w W) (by kernel_rfl) (HB.out.trans ((Below.refl _ _).drew.mono HB.out.size)) (fun hS => ?_)
        refine' wpAnyH_take (i := 0) ?h1x0 ?hsx0 ?hfx0 ?hrx0 ?hQx0 (Or.inl ⟨?hwx0, ?hyx0⟩) hS ?restx0
        case h1x0 => (simp only [List.getElem?_toArray, List.getElem?_cons_zero]; rfl)
        case hsx0 => kernel_rfl
        case hfx0 => kernel_rfl
        case hrx0 => kernel_rfl
        case hQx0 => exact fun _ _ _ h => h
        case hwx0 => rfl
        case hyx0 =>
          intro W hW
          go_simp
          try with_reducible rfl
        simp only [Act.put, List.setIfInBounds_toArray, List.set_cons_succ, List.set_cons_zero]
        refine' wpAnyH_take (i := 1) ?h1x1 ?hsx1 ?hfx1 ?hrx1 ?hQx1 (Or.inl ⟨?hwx1, ?hyx1⟩) hS ?restx1
        case h1x1 => (simp only [List.getElem?_toArray, List.getElem?_cons_succ, List.getElem?_cons_zero]; rfl)
        case hsx1 => kernel_rfl
        case hfx1 => kernel_rfl
        case hrx1 => kernel_rfl
        case hQx1 => exact fun _ _ _ h => h
        case hwx1 => rfl
        case hyx1 =>
          intro W hW
          go_simp
          try with_reducible rfl
        simp only [Act.put, List.setIfInBounds_toArray, List.set_cons_succ, List.set_cons_zero]
        refine' wpAnyH_take (i := 2) ?h1x2 ?hsx2 ?hfx2 ?hrx2 ?hQx2 (Or.inl ⟨?hwx2, ?hyx2⟩) hS ?restx2
        case h1x2 => (simp only [List.getElem?_toArray, List.getElem?_cons_succ, List.getElem?_cons_zero]; rfl)
        case hsx2 => kernel_rfl
        case hfx2 => kernel_rfl
        case hrx2 => kernel_rfl
        case hQx2 => exact fun _ _ _ h => h
        case hwx2 => rfl
        case hyx2 =>
          intro W hW
          go_simp
          try with_reducible rfl
        simp only [Act.put, List.setIfInBounds_toArray, List.set_cons_succ, List.set_cons_zero]
        refine' wpAnyH_take (i := 3) ?h1x3 ?hsx3 ?hfx3 ?hrx3 ?hQx3 (Or.inl ⟨?hwx3, ?hyx3⟩) hS ?restx3
        case h1x3 => (simp only [List.getElem?_toArray, List.getElem?_cons_succ, List.getElem?_cons_zero]; rfl)
        case hsx3 => kernel_rfl
        case hfx3 => kernel_rfl
        case hrx3 => kernel_rfl
        case hQx3 => exact fun _ _ _ h => h
        case hwx3 => rfl
        case hyx3 =>
          intro W hW
          go_simp
          try with_reducible rfl
        simp only [Act.put, List.setIfInBounds_toArray, List.set_cons_succ, List.set_cons_zero]
        refine' wpAnyH_take (i := 4) ?h1x4 ?hsx4 ?hfx4 ?hrx4 ?hQx4 (Or.inl ⟨?hwx4, ?hyx4⟩) hS ?restx4
        case h1x4 => (simp only [List.getElem?_toArray, List.getElem?_cons_succ, List.getElem?_cons_zero]; rfl)
        case hsx4 => kernel_rfl
        case hfx4 => kernel_rfl
        case hrx4 => kernel_rfl
        case hQx4 => exact fun _ _ _ h => h
        case hwx4 => rfl
        case hyx4 =>
          intro W hW
          go_simp
          try with_reducible rfl
        simp only [Act.put, List.setIfInBounds_toArray, List.set_cons_succ, List.set_cons_zero]
        refine' wpAnyH_take (i := 5) ?h1x5 ?hsx5 ?hfx5 ?hrx5 ?hQx5 (Or.inl ⟨?hwx5, ?hyx5⟩) hS ?restx5
        case h1x5 => (simp only [List.getElem?_toArray, List.getElem?_cons_succ, List.getElem?_cons_zero]; rfl)
        case hsx5 => kernel_rfl
        case hfx5 => kernel_rfl
        case hrx5 => kernel_rfl
        case hQx5 => exact fun _ _ _ h => h
        case hwx5 => rfl
        case hyx5 =>
          intro W hW
          obtain ⟨k0, k1, k2, k3, k4⟩ := CC.out W hW
          go_simp
          try with_reducible rfl
        simp only [Act.put, List.setIfInBounds_toArray, List.set_cons_succ, List.set_cons_zero]
        refine wpAnyH_ready (rs := [6]) (by kernel_rfl) (by simp) ?_
        refine' AllReadyH.cons ?hoc6 (fun K hK => ?stc6) AllReadyH.nil
        case hoc6 => (simp only [List.getElem?_toArray, List.getElem?_cons_succ, List.getElem?_cons_zero]; rfl)
        go_simp
        refine (oneAll (O1.out.below (Below.refl _ _).drew) (by omega) kd s' y n' x' l' c' SY.out.1 SY.out.2.1 SY.out.2.2.1 SY.out.2.2.2.1 f SY.out.2.2.2.2).mono ?_
        rintro e w4 ⟨rfl, o4⟩
        go_wp2_with fail
        refine hK.out _ _ o4.b (fun hHeld => ?_)
        clear hK K hHeld hS
        try simp only [Act.put, List.setIfInBounds_toArray, List.set_cons_succ, List.set_cons_zero]
        obtain ⟨wv, su, ws, rg, cc, p, d, K, lv, L, rb, st4, bd4⟩ := o4
        have T4 := Lib.hid st4
        have B4 := Lib.hid bd4
        have w19 : Hid (Calls Try.prog 19 #[.pointer (some ⟨q, 0, none⟩)] w4 fun e w' => e = .returned (.int .i64 ws.length) ∧ w4 = w') := by
          have := waitsX st4.xd (by omega)
          rw [← st4.rl.w] at this
          exact this
        refine wpAnyH_mono (S' := fun W => (W.cell? ⟨q, 3, none⟩ = some (.int .i64 cc) ∧ W.cell? ⟨q, 5, none⟩ = some (.bool d) ∧ W.cell? ⟨q, 0, none⟩ = some (.int .i64 N)) ∧ Below w.heap.size w W) (fun _ h => h.2) _ _ _ _ ?_
        have hS : (w4.cell? ⟨q, 3, none⟩ = some (.int .i64 cc) ∧ w4.cell? ⟨q, 5, none⟩ = some (.bool d) ∧ w4.cell? ⟨q, 0, none⟩ = some (.int .i64 N)) ∧ Below w.heap.size w w4 := ⟨⟨st4.xd.c3, st4.xd.c5, st4.xd.c0⟩, st4.lk.b⟩
        clear st4 bd4 O1 HB
        refine' wpAnyH_take (i := 7) ?h1x7 ?hsx7 ?hfx7 ?hrx7 ?hQx7 (Or.inl ⟨?hwx7, ?hyx7⟩) hS ?restx7
        case h1x7 => (simp only [List.getElem?_toArray, List.getElem?_cons_succ, List.getElem?_cons_zero]; rfl)
        case hsx7 => kernel_rfl
        case hfx7 => kernel_rfl
        case hrx7 => kernel_rfl
        case hQx7 => exact fun _ _ _ h => h
        case hwx7 => rfl
        case hyx7 =>
          intro W hW
          go_simp
          try with_reducible rfl
        simp only [Act.put, List.setIfInBounds_toArray, List.set_cons_succ, List.set_cons_zero]
        refine' wpAnyH_take (i := 8) ?h1x8 ?hsx8 ?hfx8 ?hrx8 ?hQx8 (Or.inl ⟨?hwx8, ?hyx8⟩) hS ?restx8
        case h1x8 => (simp only [List.getElem?_toArray, List.getElem?_cons_succ, List.getElem?_cons_zero]; rfl)
        case hsx8 => kernel_rfl
        case hfx8 => kernel_rfl
        case hrx8 => kernel_rfl
        case hQx8 => exact fun _ _ _ h => h
        case hwx8 => rfl
        case hyx8 =>
          intro W hW
          go_simp
          try with_reducible rfl
        simp only [Act.put, List.setIfInBounds_toArray, List.set_cons_succ, List.set_cons_zero]
        refine' wpAnyH_take (i := 9) ?h1x9 ?hsx9 ?hfx9 ?hrx9 ?hQx9 (Or.inl ⟨?hwx9, ?hyx9⟩) hS ?restx9
        case h1x9 => (simp only [List.getElem?_toArray, List.getElem?_cons_succ, List.getElem?_cons_zero]; rfl)
        case hsx9 => kernel_rfl
        case hfx9 => kernel_rfl
        case hrx9 => kernel_rfl
        case hQx9 => exact fun _ _ _ h => h
        case hwx9 => rfl
        case hyx9 =>
          intro W hW
          go_simp
          try with_reducible rfl
        simp only [Act.put, List.setIfInBounds_toArray, List.set_cons_succ, List.set_cons_zero]
        refine' wpAnyH_take (i := 11) ?h1x11 ?hsx11 ?hfx11 ?hrx11 ?hQx11 (Or.inl ⟨?hwx11, ?hyx11⟩) hS ?restx11
        case h1x11 => (simp only [List.getElem?_toArray, List.getElem?_cons_succ, List.getElem?_cons_zero]; rfl)
        case hsx11 => kernel_rfl
        case hfx11 => kernel_rfl
        case hrx11 => kernel_rfl
        case hQx11 => exact fun _ _ _ h => h
        case hwx11 => rfl
        case hyx11 =>
          intro W hW
          go_simp
          try with_reducible rfl
        simp only [Act.put, List.setIfInBounds_toArray, List.set_cons_succ, List.set_cons_zero]
        refine wpAnyH_ready (rs := [10]) (by kernel_rfl) (by simp) ?_
        refine' AllReadyH.cons ?hoc10 (fun K hK => ?stc10) AllReadyH.nil
        case hoc10 => (simp only [List.getElem?_toArray, List.getElem?_cons_succ, List.getElem?_cons_zero]; rfl)
        go_simp
        refine (waitsD T4.out.lk.dk).mono ?_
        rintro e w' ⟨rfl, rfl⟩
        go_wp2_with fail
        refine hK.out _ _ hS (fun hHeld => ?_)
        clear hK K hHeld
        try simp only [Act.put, List.setIfInBounds_toArray, List.set_cons_succ, List.set_cons_zero]
        refine wpAnyH_ready (rs := [12]) (by kernel_rfl) (by simp) ?_
        refine' AllReadyH.cons ?hoc12 (fun K hK => ?stc12) AllReadyH.nil
        case hoc12 => (simp only [List.getElem?_toArray, List.getElem?_cons_succ, List.getElem?_cons_zero]; rfl)
        go_simp
        refine (w19.out).mono ?_
        rintro e w' ⟨rfl, rfl⟩
        go_wp2_with fail
        refine hK.out _ _ hS (fun hHeld => ?_)
        clear hK K hHeld
        try simp only [Act.put, List.setIfInBounds_toArray, List.set_cons_succ, List.set_cons_zero]
        refine' wpAnyH_take (i := 13) ?h1x13 ?hsx13 ?hfx13 ?hrx13 ?hQx13 (Or.inl ⟨?hwx13, ?hyx13⟩) hS ?restx13
        case h1x13 => (simp only [List.getElem?_toArray, List.getElem?_cons_succ, List.getElem?_cons_zero]; rfl)
        case hsx13 => kernel_rfl
        case hfx13 => kernel_rfl
        case hrx13 => kernel_rfl
        case hQx13 => exact fun _ _ _ h => h
        case hwx13 => rfl
        case hyx13 =>
          intro W hW
          go_simp
          try with_reducible rfl
        simp only [Act.put, List.setIfInBounds_toArray, List.set_cons_succ, List.set_cons_zero]
        refine' wpAnyH_take (i := 14) ?h1x14 ?hsx14 ?hfx14 ?hrx14 ?hQx14 (Or.inl ⟨?hwx14, ?hyx14⟩) hS ?restx14
        case h1x14 => (simp only [List.getElem?_toArray, List.getElem?_cons_succ, List.getElem?_cons_zero]; rfl)
        case hsx14 => kernel_rfl
        case hfx14 => kernel_rfl
        case hrx14 => kernel_rfl
        case hQx14 => exact fun _ _ _ h => h
        case hwx14 => rfl
        case hyx14 =>
          intro W hW
          go_simp
          try with_reducible rfl
        simp only [Act.put, List.setIfInBounds_toArray, List.set_cons_succ, List.set_cons_zero]
        refine' wpAnyH_take (i := 15) ?h1x15 ?hsx15 ?hfx15 ?hrx15 ?hQx15 (Or.inl ⟨?hwx15, ?hyx15⟩) hS ?restx15
        case h1x15 => (simp only [List.getElem?_toArray, List.getElem?_cons_succ, List.getElem?_cons_zero]; rfl)
        case hsx15 => kernel_rfl
        case hfx15 => kernel_rfl
        case hrx15 => kernel_rfl
        case hQx15 => exact fun _ _ _ h => h
        case hwx15 => rfl
        case hyx15 =>
          intro W hW
          go_simp
          try with_reducible rfl
        simp only [Act.put, List.setIfInBounds_toArray, List.set_cons_succ, List.set_cons_zero]
        refine' wpAnyH_take (i := 16) ?h1x16 ?hsx16 ?hfx16 ?hrx16 ?hQx16 (Or.inl ⟨?hwx16, ?hyx16⟩) hS ?restx16
        case h1x16 => (simp only [List.getElem?_toArray, List.getElem?_cons_succ, List.getElem?_cons_zero]; rfl)
        case hsx16 => kernel_rfl
        case hfx16 => kernel_rfl
        case hrx16 => kernel_rfl
        case hQx16 => exact fun _ _ _ h => h
        case hwx16 => rfl
        case hyx16 =>
          intro W hW
          go_simp
          try with_reducible rfl
        simp only [Act.put, List.setIfInBounds_toArray, List.set_cons_succ, List.set_cons_zero]
        refine' wpAnyH_take (i := 18) ?h1x18 ?hsx18 ?hfx18 ?hrx18 ?hQx18 (Or.inl ⟨?hwx18, ?hyx18⟩) hS ?restx18
        case h1x18 => (simp only [List.getElem?_toArray, List.getElem?_cons_succ, List.getElem?_cons_zero]; rfl)
        case hsx18 => kernel_rfl
        case hfx18 => kernel_rfl
        case hrx18 => kernel_rfl
        case hQx18 => exact fun _ _ _ h => h
        case hwx18 => rfl
        case hyx18 =>
          intro W hW
          go_simp
          try with_reducible rfl
        simp only [Act.put, List.setIfInBounds_toArray, List.set_cons_succ, List.set_cons_zero]
        refine' wpAnyH_take (i := 19) ?h1x19 ?hsx19 ?hfx19 ?hrx19 ?hQx19 (Or.inl ⟨?hwx19, ?hyx19⟩) hS ?restx19
        case h1x19 => (simp only [List.getElem?_toArray, List.getElem?_cons_succ, List.getElem?_cons_zero]; rfl)
        case hsx19 => kernel_rfl
        case hfx19 => kernel_rfl
        case hrx19 => kernel_rfl
        case hQx19 => exact fun _ _ _ h => h
        case hwx19 => rfl
        case hyx19 =>
          intro W hW
          go_simp
          try with_reducible rfl
        simp only [Act.put, List.setIfInBounds_toArray, List.set_cons_succ, List.set_cons_zero]
        refine' wpAnyH_take (i := 20) ?h1x20 ?hsx20 ?hfx20 ?hrx20 ?hQx20 (Or.inl ⟨?hwx20, ?hyx20⟩) hS ?restx20
        case h1x20 => (simp only [List.getElem?_toArray, List.getElem?_cons_succ, List.getElem?_cons_zero]; rfl)
        case hsx20 => kernel_rfl
        case hfx20 => kernel_rfl
        case hrx20 => kernel_rfl
        case hQx20 => exact fun _ _ _ h => h
        case hwx20 => rfl
        case hyx20 =>
          intro W hW
          go_simp
          try with_reducible rfl
        simp only [Act.put, List.setIfInBounds_toArray, List.set_cons_succ, List.set_cons_zero]
        refine' wpAnyH_take (i := 21) ?h1x21 ?hsx21 ?hfx21 ?hrx21 ?hQx21 (Or.inl ⟨?hwx21, ?hyx21⟩) hS ?restx21
        case h1x21 => (simp only [List.getElem?_toArray, List.getElem?_cons_succ, List.getElem?_cons_zero]; rfl)
        case hsx21 => kernel_rfl
        case hfx21 => kernel_rfl
        case hrx21 => kernel_rfl
        case hQx21 => exact fun _ _ _ h => h
        case hwx21 => rfl
        case hyx21 =>
          intro W hW
          obtain ⟨⟨k3, k5, k0⟩, _⟩ := hW
          go_simp
          try with_reducible rfl
        simp only [Act.put, List.setIfInBounds_toArray, List.set_cons_succ, List.set_cons_zero]
        refine wpAnyH_ready (rs := [17]) (by kernel_rfl) (by simp) ?_
        refine' AllReadyH.cons ?hoc17 (fun K hK => ?stc17) AllReadyH.nil
        case hoc17 => (simp only [List.getElem?_toArray, List.getElem?_cons_succ, List.getElem?_cons_zero]; rfl)
        go_simp
        refine (callsD T4.out.lk.dk).mono ?_
        rintro e w' ⟨rfl, rfl⟩
        go_wp2_with fail
        refine hK.out _ _ hS (fun hHeld => ?_)
        clear hK K hHeld
        try simp only [Act.put, List.setIfInBounds_toArray, List.set_cons_succ, List.set_cons_zero]
        refine' wpAnyH_take (i := 22) ?h1x22 ?hsx22 ?hfx22 ?hrx22 ?hQx22 (Or.inl ⟨?hwx22, ?hyx22⟩) hS ?restx22
        case h1x22 => (simp only [List.getElem?_toArray, List.getElem?_cons_succ, List.getElem?_cons_zero]; rfl)
        case hsx22 => kernel_rfl
        case hfx22 => kernel_rfl
        case hrx22 => kernel_rfl
        case hQx22 => exact fun _ _ _ h => h
        case hwx22 => rfl
        case hyx22 =>
          intro W hW
          go_simp
          try with_reducible rfl
        simp only [Act.put, List.setIfInBounds_toArray, List.set_cons_succ, List.set_cons_zero]
        refine' wpAnyH_take (i := 23) ?h1x23 ?hsx23 ?hfx23 ?hrx23 ?hQx23 (Or.inl ⟨?hwx23, ?hyx23⟩) hS ?restx23
        case h1x23 => (simp only [List.getElem?_toArray, List.getElem?_cons_succ, List.getElem?_cons_zero]; rfl)
        case hsx23 => kernel_rfl
        case hfx23 => kernel_rfl
        case hrx23 => kernel_rfl
        case hQx23 => exact fun _ _ _ h => h
        case hwx23 => rfl
        case hyx23 =>
          intro W hW
          go_simp
          try with_reducible rfl
        simp only [Act.put, List.setIfInBounds_toArray, List.set_cons_succ, List.set_cons_zero]
        refine' wpAnyH_take (i := 24) ?h1x24 ?hsx24 ?hfx24 ?hrx24 ?hQx24 (Or.inl ⟨?hwx24, ?hyx24⟩) hS ?restx24
        case h1x24 => (simp only [List.getElem?_toArray, List.getElem?_cons_succ, List.getElem?_cons_zero]; rfl)
        case hsx24 => kernel_rfl
        case hfx24 => kernel_rfl
        case hrx24 => kernel_rfl
        case hQx24 => exact fun _ _ _ h => h
        case hwx24 => rfl
        case hyx24 =>
          intro W hW
          go_simp
          try with_reducible rfl
        simp only [Act.put, List.setIfInBounds_toArray, List.set_cons_succ, List.set_cons_zero]
        refine' wpAnyH_take (i := 25) ?h1x25 ?hsx25 ?hfx25 ?hrx25 ?hQx25 (Or.inl ⟨?hwx25, ?hyx25⟩) hS ?restx25
        case h1x25 => (simp only [List.getElem?_toArray, List.getElem?_cons_succ, List.getElem?_cons_zero]; rfl)
        case hsx25 => kernel_rfl
        case hfx25 => kernel_rfl
        case hrx25 => kernel_rfl
        case hQx25 => exact fun _ _ _ h => h
        case hwx25 => rfl
        case hyx25 =>
          intro W hW
          go_simp
          try with_reducible rfl
        simp only [Act.put, List.setIfInBounds_toArray, List.set_cons_succ, List.set_cons_zero]
        refine' wpAnyH_take (i := 27) ?h1x27 ?hsx27 ?hfx27 ?hrx27 ?hQx27 (Or.inl ⟨?hwx27, ?hyx27⟩) hS ?restx27
        case h1x27 => (simp only [List.getElem?_toArray, List.getElem?_cons_succ, List.getElem?_cons_zero]; rfl)
        case hsx27 => kernel_rfl
        case hfx27 => kernel_rfl
        case hrx27 => kernel_rfl
        case hQx27 => exact fun _ _ _ h => h
        case hwx27 => rfl
        case hyx27 =>
          intro W hW
          go_simp
          try with_reducible rfl
        simp only [Act.put, List.setIfInBounds_toArray, List.set_cons_succ, List.set_cons_zero]
        refine' wpAnyH_take (i := 28) ?h1x28 ?hsx28 ?hfx28 ?hrx28 ?hQx28 (Or.inl ⟨?hwx28, ?hyx28⟩) hS ?restx28
        case h1x28 => (simp only [List.getElem?_toArray, List.getElem?_cons_succ, List.getElem?_cons_zero]; rfl)
        case hsx28 => kernel_rfl
        case hfx28 => kernel_rfl
        case hrx28 => kernel_rfl
        case hQx28 => exact fun _ _ _ h => h
        case hwx28 => rfl
        case hyx28 =>
          intro W hW
          go_simp
          try with_reducible rfl
        simp only [Act.put, List.setIfInBounds_toArray, List.set_cons_succ, List.set_cons_zero]
        refine' wpAnyH_take (i := 29) ?h1x29 ?hsx29 ?hfx29 ?hrx29 ?hQx29 (Or.inl ⟨?hwx29, ?hyx29⟩) hS ?restx29
        case h1x29 => (simp only [List.getElem?_toArray, List.getElem?_cons_succ, List.getElem?_cons_zero]; rfl)
        case hsx29 => kernel_rfl
        case hfx29 => kernel_rfl
        case hrx29 => kernel_rfl
        case hQx29 => exact fun _ _ _ h => h
        case hwx29 => rfl
        case hyx29 =>
          intro W hW
          go_simp
          try with_reducible rfl
        simp only [Act.put, List.setIfInBounds_toArray, List.set_cons_succ, List.set_cons_zero]
        refine' wpAnyH_take (i := 30) ?h1x30 ?hsx30 ?hfx30 ?hrx30 ?hQx30 (Or.inl ⟨?hwx30, ?hyx30⟩) hS ?restx30
        case h1x30 => (simp only [List.getElem?_toArray, List.getElem?_cons_succ, List.getElem?_cons_zero]; rfl)
        case hsx30 => kernel_rfl
        case hfx30 => kernel_rfl
        case hrx30 => kernel_rfl
        case hQx30 => exact fun _ _ _ h => h
        case hwx30 => rfl
        case hyx30 =>
          intro W hW
          obtain ⟨⟨k3, k5, k0⟩, _⟩ := hW
          go_simp
          try with_reducible rfl
        simp only [Act.put, List.setIfInBounds_toArray, List.set_cons_succ, List.set_cons_zero]
        refine wpAnyH_ready (rs := [26]) (by kernel_rfl) (by simp) ?_
        refine' AllReadyH.cons ?hoc26 (fun K hK => ?stc26) AllReadyH.nil
        case hoc26 => (simp only [List.getElem?_toArray, List.getElem?_cons_succ, List.getElem?_cons_zero]; rfl)
        go_simp
        refine (downD T4.out.lk.dk).mono ?_
        rintro e w' ⟨rfl, rfl⟩
        go_wp2_with fail
        refine hK.out _ _ hS (fun hHeld => ?_)
        clear hK K hHeld
        try simp only [Act.put, List.setIfInBounds_toArray, List.set_cons_succ, List.set_cons_zero]
        refine' wpAnyH_take (i := 31) ?h1x31 ?hsx31 ?hfx31 ?hrx31 ?hQx31 (Or.inl ⟨?hwx31, ?hyx31⟩) hS ?restx31
        case h1x31 => (simp only [List.getElem?_toArray, List.getElem?_cons_succ, List.getElem?_cons_zero]; rfl)
        case hsx31 => kernel_rfl
        case hfx31 => kernel_rfl
        case hrx31 => kernel_rfl
        case hQx31 => exact fun _ _ _ h => h
        case hwx31 => rfl
        case hyx31 =>
          intro W hW
          go_simp
          try with_reducible rfl
        simp only [Act.put, List.setIfInBounds_toArray, List.set_cons_succ, List.set_cons_zero]
        refine' wpAnyH_take (i := 32) ?h1x32 ?hsx32 ?hfx32 ?hrx32 ?hQx32 (Or.inl ⟨?hwx32, ?hyx32⟩) hS ?restx32
        case h1x32 => (simp only [List.getElem?_toArray, List.getElem?_cons_succ, List.getElem?_cons_zero]; rfl)
        case hsx32 => kernel_rfl
        case hfx32 => kernel_rfl
        case hrx32 => kernel_rfl
        case hQx32 => exact fun _ _ _ h => h
        case hwx32 => rfl
        case hyx32 =>
          intro W hW
          go_simp
          try with_reducible rfl
        simp only [Act.put, List.setIfInBounds_toArray, List.set_cons_succ, List.set_cons_zero]
        refine' wpAnyH_take (i := 33) ?h1x33 ?hsx33 ?hfx33 ?hrx33 ?hQx33 (Or.inl ⟨?hwx33, ?hyx33⟩) hS ?restx33
        case h1x33 => (simp only [List.getElem?_toArray, List.getElem?_cons_succ, List.getElem?_cons_zero]; rfl)
        case hsx33 => kernel_rfl
        case hfx33 => kernel_rfl
        case hrx33 => kernel_rfl
        case hQx33 => exact fun _ _ _ h => h
        case hwx33 => rfl
        case hyx33 =>
          intro W hW
          go_simp
          try with_reducible rfl
        simp only [Act.put, List.setIfInBounds_toArray, List.set_cons_succ, List.set_cons_zero]
        refine' wpAnyH_take (i := 34) ?h1x34 ?hsx34 ?hfx34 ?hrx34 ?hQx34 (Or.inl ⟨?hwx34, ?hyx34⟩) hS ?restx34
        case h1x34 => (simp only [List.getElem?_toArray, List.getElem?_cons_succ, List.getElem?_cons_zero]; rfl)
        case hsx34 => kernel_rfl
        case hfx34 => kernel_rfl
        case hrx34 => kernel_rfl
        case hQx34 => exact fun _ _ _ h => h
        case hwx34 => rfl
        case hyx34 =>
          intro W hW
          go_simp
          try with_reducible rfl
        simp only [Act.put, List.setIfInBounds_toArray, List.set_cons_succ, List.set_cons_zero]
        refine' wpAnyH_take (i := 36) ?h1x36 ?hsx36 ?hfx36 ?hrx36 ?hQx36 (Or.inl ⟨?hwx36, ?hyx36⟩) hS ?restx36
        case h1x36 => (simp only [List.getElem?_toArray, List.getElem?_cons_succ, List.getElem?_cons_zero]; rfl)
        case hsx36 => kernel_rfl
        case hfx36 => kernel_rfl
        case hrx36 => kernel_rfl
        case hQx36 => exact fun _ _ _ h => h
        case hwx36 => rfl
        case hyx36 =>
          intro W hW
          go_simp
          try with_reducible rfl
        simp only [Act.put, List.setIfInBounds_toArray, List.set_cons_succ, List.set_cons_zero]
        refine' wpAnyH_take (i := 37) ?h1x37 ?hsx37 ?hfx37 ?hrx37 ?hQx37 (Or.inl ⟨?hwx37, ?hyx37⟩) hS ?restx37
        case h1x37 => (simp only [List.getElem?_toArray, List.getElem?_cons_succ, List.getElem?_cons_zero]; rfl)
        case hsx37 => kernel_rfl
        case hfx37 => kernel_rfl
        case hrx37 => kernel_rfl
        case hQx37 => exact fun _ _ _ h => h
        case hwx37 => rfl
        case hyx37 =>
          intro W hW
          go_simp
          try with_reducible rfl
        simp only [Act.put, List.setIfInBounds_toArray, List.set_cons_succ, List.set_cons_zero]
        refine' wpAnyH_take (i := 38) ?h1x38 ?hsx38 ?hfx38 ?hrx38 ?hQx38 (Or.inl ⟨?hwx38, ?hyx38⟩) hS ?restx38
        case h1x38 => (simp only [List.getElem?_toArray, List.getElem?_cons_succ, List.getElem?_cons_zero]; rfl)
        case hsx38 => kernel_rfl
        case hfx38 => kernel_rfl
        case hrx38 => kernel_rfl
        case hQx38 => exact fun _ _ _ h => h
        case hwx38 => rfl
        case hyx38 =>
          intro W hW
          go_simp
          try with_reducible rfl
        simp only [Act.put, List.setIfInBounds_toArray, List.set_cons_succ, List.set_cons_zero]
        refine' wpAnyH_take (i := 39) ?h1x39 ?hsx39 ?hfx39 ?hrx39 ?hQx39 (Or.inl ⟨?hwx39, ?hyx39⟩) hS ?restx39
        case h1x39 => (simp only [List.getElem?_toArray, List.getElem?_cons_succ, List.getElem?_cons_zero]; rfl)
        case hsx39 => kernel_rfl
        case hfx39 => kernel_rfl
        case hrx39 => kernel_rfl
        case hQx39 => exact fun _ _ _ h => h
        case hwx39 => rfl
        case hyx39 =>
          intro W hW
          obtain ⟨⟨k3, k5, k0⟩, _⟩ := hW
          go_simp
          try with_reducible rfl
        simp only [Act.put, List.setIfInBounds_toArray, List.set_cons_succ, List.set_cons_zero]
        refine wpAnyH_ready (rs := [35]) (by kernel_rfl) (by simp) ?_
        refine' AllReadyH.cons ?hoc35 (fun K hK => ?stc35) AllReadyH.nil
        case hoc35 => (simp only [List.getElem?_toArray, List.getElem?_cons_succ, List.getElem?_cons_zero]; rfl)
        go_simp
        refine (sizeD T4.out.lk.dk).mono ?_
        rintro e w' ⟨rfl, rfl⟩
        go_wp2_with fail
        refine hK.out _ _ hS (fun hHeld => ?_)
        clear hK K hHeld
        try simp only [Act.put, List.setIfInBounds_toArray, List.set_cons_succ, List.set_cons_zero]
        refine' wpAnyH_take (i := 40) ?h1x40 ?hsx40 ?hfx40 ?hrx40 ?hQx40 (Or.inl ⟨?hwx40, ?hyx40⟩) hS ?restx40
        case h1x40 => (simp only [List.getElem?_toArray, List.getElem?_cons_succ, List.getElem?_cons_zero]; rfl)
        case hsx40 => kernel_rfl
        case hfx40 => kernel_rfl
        case hrx40 => kernel_rfl
        case hQx40 => exact fun _ _ _ h => h
        case hwx40 => rfl
        case hyx40 =>
          intro W hW
          go_simp
          try with_reducible rfl
        simp only [Act.put, List.setIfInBounds_toArray, List.set_cons_succ, List.set_cons_zero]
        refine' wpAnyH_take (i := 41) ?h1x41 ?hsx41 ?hfx41 ?hrx41 ?hQx41 (Or.inl ⟨?hwx41, ?hyx41⟩) hS ?restx41
        case h1x41 => (simp only [List.getElem?_toArray, List.getElem?_cons_succ, List.getElem?_cons_zero]; rfl)
        case hsx41 => kernel_rfl
        case hfx41 => kernel_rfl
        case hrx41 => kernel_rfl
        case hQx41 => exact fun _ _ _ h => h
        case hwx41 => rfl
        case hyx41 =>
          intro W hW
          go_simp
          try with_reducible rfl
        simp only [Act.put, List.setIfInBounds_toArray, List.set_cons_succ, List.set_cons_zero]
        refine wpAnyH_done (by kernel_rfl) ?_ _
        clear hS w19
        go_wp2_with fail
        obtain ⟨r, C23⟩ := surePair T4.out (by have := B4.out; omega) s HS.out
        refine C23.mono ?_
        rintro e w5 ⟨xa, na, ka, rfl, hb5, C24⟩
        have T5 := Lib.hid (T4.out.below hb5)
        have C4 := Lib.hid C24
        clear C23 C24 hb5
        go_wp2_with fail
        refine C4.out.mono ?_
        rintro e w6 ⟨xb, nb, kb, st, rfl, hb6, hsp⟩
        have T6 := Lib.hid (T5.out.below hb6)
        have SP := Lib.hid hsp
        clear C4 hb6 hsp T5
        go_wp2_with fail
        cases d with
        | true =>
          refine (regD_isdown T6.out.lk.dk).mono ?_
          rintro e w7 ⟨rfl, hb7⟩
          have T7 := Lib.hid (T6.out.below hb7)
          have B7 := Lib.hid hb7
          clear hb7
          obtain ⟨rr, hrr⟩ : ∃ rr : List Value, rr = List.replicate 64 (.int .u8 0) := ⟨_, rfl⟩
          have ZR : Hid (zer64 = rr.toArray) := by show _ = _; rw [hrr]; rfl
          have R1 : Hid (∀ v ∈ rr, v.oneCell' = true) := by show ∀ v ∈ rr, _; rw [hrr]; intro v hv; rw [List.eq_of_mem_replicate hv]; rfl
          have RL : Hid (rr.length = 64) := by show _ = _; rw [hrr]; simp
          have EQ : Hid (∀ W : World, (Op.equalIn 10000 44 (.agg rr.toArray) (.agg rr.toArray)).run Try.prog W = .ok true W) := fun W => by rw [hrr]; exact eqZ W
          have BU : Try.prog.built 44 [] = some rr.toArray := by rw [hrr]; kernel_rfl
          have HRR : Hid (List.replicate 64 (Value.int .u8 0) = rr) := hrr.symm
          rw [ZR.out]
          clear hrr
          obtain ⟨Z, hZ⟩ : ∃ Z : List Value, Z = List.replicate 64 (.int .u8 0) := ⟨_, rfl⟩
          have hz : ∀ w, (zeroValue 44).run Try.prog w = .ok (.agg Z.toArray) w := fun w => by rw [hZ]; exact zero44 w
          have IZ : Hid ((Try.prog.info? 44).map (·.size) = some rr.toArray.size) := info44s.trans (by simp [RL.out])
          have HI : Hid ((Try.prog.info? 44).map (·.size) = some rr.length) := info44s.trans (by simp [RL.out])
          have SZ : Hid (Z.toArray.size = rr.toArray.size) := by show _ = _; rw [hZ]; simp [RL.out]
          have ON : Hid (rr.toArray.all (·.oneCell') = true) := all_oneCell_toArray R1.out
          have G7 : Hid ((w7.alloc (.cells Z.toArray 44)).heap[w7.heap.size]? = some (.cells Z.toArray 44 (0, 0))) := heap_alloc_new _ _
          have G8 : Hid ((w7.alloc (.cells rr.toArray 44)).heap[w7.heap.size]? = some (.cells rr.toArray 44 (0, 0))) := heap_alloc_new _ _
          have T8 := Lib.hid (T7.out.below ((Below.refl _ _).alloc (Nat.le_refl _) (.cells rr.toArray 44)))
          have B8 : Hid (Below w6.heap.size w6 (w7.alloc (.cells rr.toArray 44))) := B7.out.trans (((Below.refl _ _).alloc (Nat.le_refl _) (.cells rr.toArray 44)).mono B7.out.size)
          clear hZ
          obtain ⟨r8, hr8⟩ : ∃ r8, r8 = w7.heap.size := ⟨_, rfl⟩
          obtain ⟨w8, hw8⟩ : ∃ w8, w8 = w7.alloc (.cells rr.toArray 44) := ⟨_, rfl⟩
          rw [← hw8, ← hr8] at G8
          rw [← hw8] at T8 B8
          have HR8 := Lib.hid hr8
          have HW8 := Lib.hid hw8
          clear hr8 hw8
          have L8 : Hid (r8 < w8.heap.size) := (Array.getElem?_eq_some_iff.1 G8.out).1
          have RG : Hid (∀ W : World, W.heap[r8]? = some (.cells rr.toArray 44 (0, 0)) → W.rangeAt r8 0 rr) := fun W h j v hv => by
            rw [cell_of_row _ _ _ _ _ _ h, Nat.zero_add]; simpa using hv
          have k5 := T8.out.xd.c5
          go_wp2_with (refine wpList_store_row rfl 44 (.tmp 16) (.tmp 116) rfl w7.heap.size rr.toArray rfl rfl 44 Z.toArray G7.out IZ.out SZ.out ON.out ?_; rw [alloc_setRow, ← HW8.out, ← HR8.out])
          clear hz HW8 HR8 G7
          clear k5
          refine wp_region_held_drew (S := fun W => Below w8.heap.size w8 W) (by kernel_rfl) ((Below.refl _ _).drew) (fun hS => ?_)
          refine' wpAnyH_take (i := 0) ?h1x0d ?hsx0d ?hfx0d ?hrx0d ?hQx0d (Or.inl ⟨?hwx0d, ?hyx0d⟩) hS ?restx0d
          case h1x0d => (simp only [List.getElem?_toArray, List.getElem?_cons_zero]; rfl)
          case hsx0d => kernel_rfl
          case hfx0d => kernel_rfl
          case hrx0d => kernel_rfl
          case hQx0d => exact fun _ _ _ h => h
          case hwx0d => rfl
          case hyx0d =>
            intro W hW
            go_simp
            try with_reducible rfl
          simp only [Act.put, List.setIfInBounds_toArray, List.set_cons_succ, List.set_cons_zero]
          refine' wpAnyH_take (i := 1) ?h1x1d ?hsx1d ?hfx1d ?hrx1d ?hQx1d (Or.inl ⟨?hwx1d, ?hyx1d⟩) hS ?restx1d
          case h1x1d => (simp only [List.getElem?_toArray, List.getElem?_cons_succ, List.getElem?_cons_zero]; rfl)
          case hsx1d => kernel_rfl
          case hfx1d => kernel_rfl
          case hrx1d => kernel_rfl
          case hQx1d => exact fun _ _ _ h => h
          case hwx1d => rfl
          case hyx1d =>
            intro W hW
            have sA := (SP.out W (B8.out.trans (hW.mono B8.out.size))).1
            go_simp
            try with_reducible rfl
          simp only [Act.put, List.setIfInBounds_toArray, List.set_cons_succ, List.set_cons_zero]
          refine' wpAnyH_take (i := 2) ?h1x2d ?hsx2d ?hfx2d ?hrx2d ?hQx2d (Or.inl ⟨?hwx2d, ?hyx2d⟩) hS ?restx2d
          case h1x2d => (simp only [List.getElem?_toArray, List.getElem?_cons_succ, List.getElem?_cons_zero]; rfl)
          case hsx2d => kernel_rfl
          case hfx2d => kernel_rfl
          case hrx2d => kernel_rfl
          case hQx2d => exact fun _ _ _ h => h
          case hwx2d => rfl
          case hyx2d =>
            intro W hW
            go_simp
            try with_reducible rfl
          simp only [Act.put, List.setIfInBounds_toArray, List.set_cons_succ, List.set_cons_zero]
          refine' wpAnyH_take (i := 3) ?h1x3d ?hsx3d ?hfx3d ?hrx3d ?hQx3d (Or.inl ⟨?hwx3d, ?hyx3d⟩) hS ?restx3d
          case h1x3d => (simp only [List.getElem?_toArray, List.getElem?_cons_succ, List.getElem?_cons_zero]; rfl)
          case hsx3d => kernel_rfl
          case hfx3d => kernel_rfl
          case hrx3d => kernel_rfl
          case hQx3d => exact fun _ _ _ h => h
          case hwx3d => rfl
          case hyx3d =>
            intro W hW
            have sB := (SP.out W (B8.out.trans (hW.mono B8.out.size))).2
            go_simp
            try with_reducible rfl
          simp only [Act.put, List.setIfInBounds_toArray, List.set_cons_succ, List.set_cons_zero]
          refine' wpAnyH_take (i := 4) ?h1x4d ?hsx4d ?hfx4d ?hrx4d ?hQx4d (Or.inl ⟨?hwx4d, ?hyx4d⟩) hS ?restx4d
          case h1x4d => (simp only [List.getElem?_toArray, List.getElem?_cons_succ, List.getElem?_cons_zero]; rfl)
          case hsx4d => kernel_rfl
          case hfx4d => kernel_rfl
          case hrx4d => kernel_rfl
          case hQx4d => exact fun _ _ _ h => h
          case hwx4d => rfl
          case hyx4d =>
            intro W hW
            go_simp
            try with_reducible rfl
          simp only [Act.put, List.setIfInBounds_toArray, List.set_cons_succ, List.set_cons_zero]
          refine' wpAnyH_take (i := 5) ?h1x5d ?hsx5d ?hfx5d ?hrx5d ?hQx5d (Or.inl ⟨?hwx5d, ?hyx5d⟩) hS ?restx5d
          case h1x5d => (simp only [List.getElem?_toArray, List.getElem?_cons_succ, List.getElem?_cons_zero]; rfl)
          case hsx5d => kernel_rfl
          case hfx5d => kernel_rfl
          case hrx5d => kernel_rfl
          case hQx5d => exact fun _ _ _ h => h
          case hwx5d => rfl
          case hyx5d =>
            intro W hW
            go_simp
            try with_reducible rfl
          simp only [Act.put, List.setIfInBounds_toArray, List.set_cons_succ, List.set_cons_zero]
          refine' wpAnyH_take (i := 6) ?h1x6d ?hsx6d ?hfx6d ?hrx6d ?hQx6d (Or.inl ⟨?hwx6d, ?hyx6d⟩) hS ?restx6d
          case h1x6d => (simp only [List.getElem?_toArray, List.getElem?_cons_succ, List.getElem?_cons_zero]; rfl)
          case hsx6d => kernel_rfl
          case hfx6d => kernel_rfl
          case hrx6d => kernel_rfl
          case hQx6d => exact fun _ _ _ h => h
          case hwx6d => rfl
          case hyx6d =>
            intro W hW
            go_simp
            try with_reducible rfl
          simp only [Act.put, List.setIfInBounds_toArray, List.set_cons_succ, List.set_cons_zero]
          refine' wpAnyH_take (i := 7) ?h1x7d ?hsx7d ?hfx7d ?hrx7d ?hQx7d (Or.inl ⟨?hwx7d, ?hyx7d⟩) hS ?restx7d
          case h1x7d => (simp only [List.getElem?_toArray, List.getElem?_cons_succ, List.getElem?_cons_zero]; rfl)
          case hsx7d => kernel_rfl
          case hfx7d => kernel_rfl
          case hrx7d => kernel_rfl
          case hQx7d => exact fun _ _ _ h => h
          case hwx7d => rfl
          case hyx7d =>
            intro W hW
            go_simp
            try with_reducible rfl
          simp only [Act.put, List.setIfInBounds_toArray, List.set_cons_succ, List.set_cons_zero]
          refine' wpAnyH_take (i := 8) ?h1x8d ?hsx8d ?hfx8d ?hrx8d ?hQx8d (Or.inl ⟨?hwx8d, ?hyx8d⟩) hS ?restx8d
          case h1x8d => (simp only [List.getElem?_toArray, List.getElem?_cons_succ, List.getElem?_cons_zero]; rfl)
          case hsx8d => kernel_rfl
          case hfx8d => kernel_rfl
          case hrx8d => kernel_rfl
          case hQx8d => exact fun _ _ _ h => h
          case hwx8d => rfl
          case hyx8d =>
            intro W hW
            go_simp
            try with_reducible rfl
          simp only [Act.put, List.setIfInBounds_toArray, List.set_cons_succ, List.set_cons_zero]
          refine' wpAnyH_take (i := 9) ?h1x9d ?hsx9d ?hfx9d ?hrx9d ?hQx9d (Or.inl ⟨?hwx9d, ?hyx9d⟩) hS ?restx9d
          case h1x9d => (simp only [List.getElem?_toArray, List.getElem?_cons_succ, List.getElem?_cons_zero]; rfl)
          case hsx9d => kernel_rfl
          case hfx9d => kernel_rfl
          case hrx9d => kernel_rfl
          case hQx9d => exact fun _ _ _ h => h
          case hwx9d => rfl
          case hyx9d =>
            intro W hW
            go_simp
            try with_reducible rfl
          simp only [Act.put, List.setIfInBounds_toArray, List.set_cons_succ, List.set_cons_zero]
          refine' wpAnyH_take (i := 10) ?h1x10d ?hsx10d ?hfx10d ?hrx10d ?hQx10d (Or.inl ⟨?hwx10d, ?hyx10d⟩) hS ?restx10d
          case h1x10d => (simp only [List.getElem?_toArray, List.getElem?_cons_succ, List.getElem?_cons_zero]; rfl)
          case hsx10d => kernel_rfl
          case hfx10d => kernel_rfl
          case hrx10d => kernel_rfl
          case hQx10d => exact fun _ _ _ h => h
          case hwx10d => rfl
          case hyx10d =>
            intro W hW
            go_simp
            try with_reducible rfl
          simp only [Act.put, List.setIfInBounds_toArray, List.set_cons_succ, List.set_cons_zero]
          refine' wpAnyH_take (i := 11) ?h1x11d ?hsx11d ?hfx11d ?hrx11d ?hQx11d (Or.inl ⟨?hwx11d, ?hyx11d⟩) hS ?restx11d
          case h1x11d => (simp only [List.getElem?_toArray, List.getElem?_cons_succ, List.getElem?_cons_zero]; rfl)
          case hsx11d => kernel_rfl
          case hfx11d => kernel_rfl
          case hrx11d => kernel_rfl
          case hQx11d => exact fun _ _ _ h => h
          case hwx11d => rfl
          case hyx11d =>
            intro W hW
            go_simp
            try with_reducible rfl
          simp only [Act.put, List.setIfInBounds_toArray, List.set_cons_succ, List.set_cons_zero]
          refine' wpAnyH_take (i := 12) ?h1x12d ?hsx12d ?hfx12d ?hrx12d ?hQx12d (Or.inl ⟨?hwx12d, ?hyx12d⟩) hS ?restx12d
          case h1x12d => (simp only [List.getElem?_toArray, List.getElem?_cons_succ, List.getElem?_cons_zero]; rfl)
          case hsx12d => kernel_rfl
          case hfx12d => kernel_rfl
          case hrx12d => kernel_rfl
          case hQx12d => exact fun _ _ _ h => h
          case hwx12d => rfl
          case hyx12d =>
            intro W hW
            go_simp
            try with_reducible rfl
          simp only [Act.put, List.setIfInBounds_toArray, List.set_cons_succ, List.set_cons_zero]
          refine' wpAnyH_take (i := 13) ?h1x13d ?hsx13d ?hfx13d ?hrx13d ?hQx13d (Or.inl ⟨?hwx13d, ?hyx13d⟩) hS ?restx13d
          case h1x13d => (simp only [List.getElem?_toArray, List.getElem?_cons_succ, List.getElem?_cons_zero]; rfl)
          case hsx13d => kernel_rfl
          case hfx13d => kernel_rfl
          case hrx13d => kernel_rfl
          case hQx13d => exact fun _ _ _ h => h
          case hwx13d => rfl
          case hyx13d =>
            intro W hW
            go_simp
            try with_reducible rfl
          simp only [Act.put, List.setIfInBounds_toArray, List.set_cons_succ, List.set_cons_zero]
          refine' wpAnyH_take (i := 14) ?h1x14d ?hsx14d ?hfx14d ?hrx14d ?hQx14d (Or.inl ⟨?hwx14d, ?hyx14d⟩) hS ?restx14d
          case h1x14d => (simp only [List.getElem?_toArray, List.getElem?_cons_succ, List.getElem?_cons_zero]; rfl)
          case hsx14d => kernel_rfl
          case hfx14d => kernel_rfl
          case hrx14d => kernel_rfl
          case hQx14d => exact fun _ _ _ h => h
          case hwx14d => rfl
          case hyx14d =>
            intro W hW
            go_simp
            try with_reducible rfl
          simp only [Act.put, List.setIfInBounds_toArray, List.set_cons_succ, List.set_cons_zero]
          refine' wpAnyH_take (i := 15) ?h1x15d ?hsx15d ?hfx15d ?hrx15d ?hQx15d (Or.inl ⟨?hwx15d, ?hyx15d⟩) hS ?restx15d
          case h1x15d => (simp only [List.getElem?_toArray, List.getElem?_cons_succ, List.getElem?_cons_zero]; rfl)
          case hsx15d => kernel_rfl
          case hfx15d => kernel_rfl
          case hrx15d => kernel_rfl
          case hQx15d => exact fun _ _ _ h => h
          case hwx15d => rfl
          case hyx15d =>
            intro W hW
            go_simp
            try with_reducible rfl
          simp only [Act.put, List.setIfInBounds_toArray, List.set_cons_succ, List.set_cons_zero]
          refine' wpAnyH_take (i := 16) ?h1x16d ?hsx16d ?hfx16d ?hrx16d ?hQx16d (Or.inl ⟨?hwx16d, ?hyx16d⟩) hS ?restx16d
          case h1x16d => (simp only [List.getElem?_toArray, List.getElem?_cons_succ, List.getElem?_cons_zero]; rfl)
          case hsx16d => kernel_rfl
          case hfx16d => kernel_rfl
          case hrx16d => kernel_rfl
          case hQx16d => exact fun _ _ _ h => h
          case hwx16d => rfl
          case hyx16d =>
            intro W hW
            go_simp
            try with_reducible rfl
          simp only [Act.put, List.setIfInBounds_toArray, List.set_cons_succ, List.set_cons_zero]
          refine' wpAnyH_take (i := 17) ?h1x17d ?hsx17d ?hfx17d ?hrx17d ?hQx17d (Or.inl ⟨?hwx17d, ?hyx17d⟩) hS ?restx17d
          case h1x17d => (simp only [List.getElem?_toArray, List.getElem?_cons_succ, List.getElem?_cons_zero]; rfl)
          case hsx17d => kernel_rfl
          case hfx17d => kernel_rfl
          case hrx17d => kernel_rfl
          case hQx17d => exact fun _ _ _ h => h
          case hwx17d => rfl
          case hyx17d =>
            intro W hW
            go_simp
            try with_reducible rfl
          simp only [Act.put, List.setIfInBounds_toArray, List.set_cons_succ, List.set_cons_zero]
          refine' wpAnyH_take (i := 18) ?h1x18d ?hsx18d ?hfx18d ?hrx18d ?hQx18d (Or.inl ⟨?hwx18d, ?hyx18d⟩) hS ?restx18d
          case h1x18d => (simp only [List.getElem?_toArray, List.getElem?_cons_succ, List.getElem?_cons_zero]; rfl)
          case hsx18d => kernel_rfl
          case hfx18d => kernel_rfl
          case hrx18d => kernel_rfl
          case hQx18d => exact fun _ _ _ h => h
          case hwx18d => rfl
          case hyx18d =>
            intro W hW
            go_simp
            try with_reducible rfl
          simp only [Act.put, List.setIfInBounds_toArray, List.set_cons_succ, List.set_cons_zero]
          refine' wpAnyH_take (i := 19) ?h1x19d ?hsx19d ?hfx19d ?hrx19d ?hQx19d (Or.inr ⟨?hwx19d, rfl⟩) hS ?restx19d
          case h1x19d => (simp only [List.getElem?_toArray, List.getElem?_cons_succ, List.getElem?_cons_zero]; rfl)
          case hsx19d => kernel_rfl
          case hfx19d => kernel_rfl
          case hrx19d => kernel_rfl
          case hQx19d => exact fun _ _ _ h => h
          case hwx19d => rfl
          simp only [Act.put, List.setIfInBounds_toArray, List.set_cons_succ, List.set_cons_zero]
          refine' wpAnyH_take (i := 20) ?h1x20d ?hsx20d ?hfx20d ?hrx20d ?hQx20d (Or.inr ⟨?hwx20d, rfl⟩) hS ?restx20d
          case h1x20d => (simp only [List.getElem?_toArray, List.getElem?_cons_succ, List.getElem?_cons_zero]; rfl)
          case hsx20d => kernel_rfl
          case hfx20d => kernel_rfl
          case hrx20d => kernel_rfl
          case hQx20d => exact fun _ _ _ h => h
          case hwx20d => rfl
          simp only [Act.put, List.setIfInBounds_toArray, List.set_cons_succ, List.set_cons_zero]
          refine' wpAnyH_take (i := 21) ?h1x21d ?hsx21d ?hfx21d ?hrx21d ?hQx21d (Or.inr ⟨?hwx21d, rfl⟩) hS ?restx21d
          case h1x21d => (simp only [List.getElem?_toArray, List.getElem?_cons_succ, List.getElem?_cons_zero]; rfl)
          case hsx21d => kernel_rfl
          case hfx21d => kernel_rfl
          case hrx21d => kernel_rfl
          case hQx21d => exact fun _ _ _ h => h
          case hwx21d => rfl
          simp only [Act.put, List.setIfInBounds_toArray, List.set_cons_succ, List.set_cons_zero]
          refine' wpAnyH_take (i := 22) ?h1x22d ?hsx22d ?hfx22d ?hrx22d ?hQx22d (Or.inr ⟨?hwx22d, rfl⟩) hS ?restx22d
          case h1x22d => (simp only [List.getElem?_toArray, List.getElem?_cons_succ, List.getElem?_cons_zero]; rfl)
          case hsx22d => kernel_rfl
          case hfx22d => kernel_rfl
          case hrx22d => kernel_rfl
          case hQx22d => exact fun _ _ _ h => h
          case hwx22d => rfl
          simp only [Act.put, List.setIfInBounds_toArray, List.set_cons_succ, List.set_cons_zero]
          refine' wpAnyH_take (i := 23) ?h1x23d ?hsx23d ?hfx23d ?hrx23d ?hQx23d (Or.inr ⟨?hwx23d, rfl⟩) hS ?restx23d
          case h1x23d => (simp only [List.getElem?_toArray, List.getElem?_cons_succ, List.getElem?_cons_zero]; rfl)
          case hsx23d => kernel_rfl
          case hfx23d => kernel_rfl
          case hrx23d => kernel_rfl
          case hQx23d => exact fun _ _ _ h => h
          case hwx23d => rfl
          simp only [Act.put, List.setIfInBounds_toArray, List.set_cons_succ, List.set_cons_zero]
          refine' wpAnyH_take (i := 24) ?h1x24d ?hsx24d ?hfx24d ?hrx24d ?hQx24d (Or.inr ⟨?hwx24d, rfl⟩) hS ?restx24d
          case h1x24d => (simp only [List.getElem?_toArray, List.getElem?_cons_succ, List.getElem?_cons_zero]; rfl)
          case hsx24d => kernel_rfl
          case hfx24d => kernel_rfl
          case hrx24d => kernel_rfl
          case hQx24d => exact fun _ _ _ h => h
          case hwx24d => rfl
          simp only [Act.put, List.setIfInBounds_toArray, List.set_cons_succ, List.set_cons_zero]
          refine' wpAnyH_take (i := 25) ?h1x25d ?hsx25d ?hfx25d ?hrx25d ?hQx25d (Or.inr ⟨?hwx25d, rfl⟩) hS ?restx25d
          case h1x25d => (simp only [List.getElem?_toArray, List.getElem?_cons_succ, List.getElem?_cons_zero]; rfl)
          case hsx25d => kernel_rfl
          case hfx25d => kernel_rfl
          case hrx25d => kernel_rfl
          case hQx25d => exact fun _ _ _ h => h
          case hwx25d => rfl
          simp only [Act.put, List.setIfInBounds_toArray, List.set_cons_succ, List.set_cons_zero]
          refine' wpAnyH_take (i := 26) ?h1x26d ?hsx26d ?hfx26d ?hrx26d ?hQx26d (Or.inr ⟨?hwx26d, rfl⟩) hS ?restx26d
          case h1x26d => (simp only [List.getElem?_toArray, List.getElem?_cons_succ, List.getElem?_cons_zero]; rfl)
          case hsx26d => kernel_rfl
          case hfx26d => kernel_rfl
          case hrx26d => kernel_rfl
          case hQx26d => exact fun _ _ _ h => h
          case hwx26d => rfl
          simp only [Act.put, List.setIfInBounds_toArray, List.set_cons_succ, List.set_cons_zero]
          refine' wpAnyH_take (i := 27) ?h1x27d ?hsx27d ?hfx27d ?hrx27d ?hQx27d (Or.inl ⟨?hwx27d, ?hyx27d⟩) hS ?restx27d
          case h1x27d => (simp only [List.getElem?_toArray, List.getElem?_cons_succ, List.getElem?_cons_zero]; rfl)
          case hsx27d => kernel_rfl
          case hfx27d => kernel_rfl
          case hrx27d => kernel_rfl
          case hQx27d => exact fun _ _ _ h => h
          case hwx27d => rfl
          case hyx27d =>
            intro W hW
            go_simp
            try with_reducible rfl
          simp only [Act.put, List.setIfInBounds_toArray, List.set_cons_succ, List.set_cons_zero]
          refine' wpAnyH_take (i := 28) ?h1x28d ?hsx28d ?hfx28d ?hrx28d ?hQx28d (Or.inl ⟨?hwx28d, ?hyx28d⟩) hS ?restx28d
          case h1x28d => (simp only [List.getElem?_toArray, List.getElem?_cons_succ, List.getElem?_cons_zero]; rfl)
          case hsx28d => kernel_rfl
          case hfx28d => kernel_rfl
          case hrx28d => kernel_rfl
          case hQx28d => exact fun _ _ _ h => h
          case hwx28d => rfl
          case hyx28d =>
            intro W hW
            go_simp
            try with_reducible rfl
          simp only [Act.put, List.setIfInBounds_toArray, List.set_cons_succ, List.set_cons_zero]
          refine' wpAnyH_take (i := 29) ?h1x29d ?hsx29d ?hfx29d ?hrx29d ?hQx29d (Or.inl ⟨?hwx29d, ?hyx29d⟩) hS ?restx29d
          case h1x29d => (simp only [List.getElem?_toArray, List.getElem?_cons_succ, List.getElem?_cons_zero]; rfl)
          case hsx29d => kernel_rfl
          case hfx29d => kernel_rfl
          case hrx29d => kernel_rfl
          case hQx29d => exact fun _ _ _ h => h
          case hwx29d => rfl
          case hyx29d =>
            intro W hW
            go_simp
            try with_reducible rfl
          simp only [Act.put, List.setIfInBounds_toArray, List.set_cons_succ, List.set_cons_zero]
          refine' wpAnyH_take (i := 30) ?h1x30d ?hsx30d ?hfx30d ?hrx30d ?hQx30d (Or.inl ⟨?hwx30d, ?hyx30d⟩) hS ?restx30d
          case h1x30d => (simp only [List.getElem?_toArray, List.getElem?_cons_succ, List.getElem?_cons_zero]; rfl)
          case hsx30d => kernel_rfl
          case hfx30d => kernel_rfl
          case hrx30d => kernel_rfl
          case hQx30d => exact fun _ _ _ h => h
          case hwx30d => rfl
          case hyx30d =>
            intro W hW
            go_simp
            try with_reducible rfl
          simp only [Act.put, List.setIfInBounds_toArray, List.set_cons_succ, List.set_cons_zero]
          refine' wpAnyH_take (i := 31) ?h1x31d ?hsx31d ?hfx31d ?hrx31d ?hQx31d (Or.inl ⟨?hwx31d, ?hyx31d⟩) hS ?restx31d
          case h1x31d => (simp only [List.getElem?_toArray, List.getElem?_cons_succ, List.getElem?_cons_zero]; rfl)
          case hsx31d => kernel_rfl
          case hfx31d => kernel_rfl
          case hrx31d => kernel_rfl
          case hQx31d => exact fun _ _ _ h => h
          case hwx31d => rfl
          case hyx31d =>
            intro W hW
            go_simp
            try with_reducible rfl
          simp only [Act.put, List.setIfInBounds_toArray, List.set_cons_succ, List.set_cons_zero]
          refine' wpAnyH_take (i := 32) ?h1x32d ?hsx32d ?hfx32d ?hrx32d ?hQx32d (Or.inl ⟨?hwx32d, ?hyx32d⟩) hS ?restx32d
          case h1x32d => (simp only [List.getElem?_toArray, List.getElem?_cons_succ, List.getElem?_cons_zero]; rfl)
          case hsx32d => kernel_rfl
          case hfx32d => kernel_rfl
          case hrx32d => kernel_rfl
          case hQx32d => exact fun _ _ _ h => h
          case hwx32d => rfl
          case hyx32d =>
            intro W hW
            go_simp
            try with_reducible rfl
          simp only [Act.put, List.setIfInBounds_toArray, List.set_cons_succ, List.set_cons_zero]
          refine' wpAnyH_take (i := 33) ?h1x33d ?hsx33d ?hfx33d ?hrx33d ?hQx33d (yieldsIf_load_mid ?hwx33d 44 (.tmp 16) ?hopx33d r8 0 rfl rr _ (fun W hW => RG.out W ((hW.block _ L8.out).trans G8.out)) Try.underlying44 rfl ?hix33d) hS ?restx33d
          case h1x33d => (simp only [List.getElem?_toArray, List.getElem?_cons_succ, List.getElem?_cons_zero]; rfl)
          case hopx33d => rfl
          case hsx33d => kernel_rfl
          case hfx33d => kernel_rfl
          case hrx33d => kernel_rfl
          case hQx33d => exact fun _ _ _ h => h
          case hwx33d => rfl
          case hix33d => exact HI.out
          simp only [Act.put, List.setIfInBounds_toArray, List.set_cons_succ, List.set_cons_zero]
          refine' wpAnyH_take (i := 34) (v := .agg rr.toArray) ?h1x34d ?hsx34d ?hfx34d ?hrx34d ?hQx34d (Or.inl ⟨?hwx34d, ?hyx34d⟩) hS ?restx34d
          case h1x34d => (simp only [List.getElem?_toArray, List.getElem?_cons_succ, List.getElem?_cons_zero]; rfl)
          case hsx34d => kernel_rfl
          case hfx34d => kernel_rfl
          case hrx34d => kernel_rfl
          case hQx34d => exact fun _ _ _ h => h
          case hwx34d => rfl
          case hyx34d =>
            intro W hW
            go_simp
            exact HRR.out
          simp only [Act.put, List.setIfInBounds_toArray, List.set_cons_succ, List.set_cons_zero]
          refine' wpAnyH_take (i := 35) ?h1x35d ?hsx35d ?hfx35d ?hrx35d ?hQx35d (Or.inl ⟨?hwx35d, ?hyx35d⟩) hS ?restx35d
          case h1x35d => (simp only [List.getElem?_toArray, List.getElem?_cons_succ, List.getElem?_cons_zero]; rfl)
          case hsx35d => kernel_rfl
          case hfx35d => kernel_rfl
          case hrx35d => kernel_rfl
          case hQx35d => exact fun _ _ _ h => h
          case hwx35d => rfl
          case hyx35d =>
            intro W hW
            have eq := EQ.out W
            go_simp
            try with_reducible rfl
          simp only [Act.put, List.setIfInBounds_toArray, List.set_cons_succ, List.set_cons_zero]
          refine' wpAnyH_take (i := 36) ?h1x36d ?hsx36d ?hfx36d ?hrx36d ?hQx36d (Or.inl ⟨?hwx36d, ?hyx36d⟩) hS ?restx36d
          case h1x36d => (simp only [List.getElem?_toArray, List.getElem?_cons_succ, List.getElem?_cons_zero]; rfl)
          case hsx36d => kernel_rfl
          case hfx36d => kernel_rfl
          case hrx36d => kernel_rfl
          case hQx36d => exact fun _ _ _ h => h
          case hwx36d => rfl
          case hyx36d =>
            intro W hW
            go_simp
            try with_reducible rfl
          simp only [Act.put, List.setIfInBounds_toArray, List.set_cons_succ, List.set_cons_zero]
          refine' wpAnyH_take (i := 37) ?h1x37d ?hsx37d ?hfx37d ?hrx37d ?hQx37d (Or.inl ⟨?hwx37d, ?hyx37d⟩) hS ?restx37d
          case h1x37d => (simp only [List.getElem?_toArray, List.getElem?_cons_succ, List.getElem?_cons_zero]; rfl)
          case hsx37d => kernel_rfl
          case hfx37d => kernel_rfl
          case hrx37d => kernel_rfl
          case hQx37d => exact fun _ _ _ h => h
          case hwx37d => rfl
          case hyx37d =>
            intro W hW
            go_simp
            try with_reducible rfl
          simp only [Act.put, List.setIfInBounds_toArray, List.set_cons_succ, List.set_cons_zero]
          refine wpAnyH_done (by kernel_rfl) ?_ _
          go_wp2_with fail
          go_roundg (min l 120 - (i + 1))
          case measure => have := HR.out; omega
          case rel => exact ⟨i + 1, by have := HR.out; omega, by go_num, _, _, _, _, _, _, _, _, _, _, _, T8.out.below hS, B4.out⟩
        | false =>
          refine (regD_ok T6.out.lk.dk B4.out.2.2.2.2.2.one).mono ?_
          rintro e w7 ⟨rfl, hb7⟩
          have T7 := Lib.hid (T6.out.below hb7)
          have B7 := Lib.hid hb7
          clear hb7
          have R1 : Hid (∀ v ∈ rg, v.oneCell' = true) := B4.out.2.2.2.2.2.one
          have RL : Hid (rg.length = 64) := B4.out.2.2.2.2.2.len
          obtain ⟨Z, hZ⟩ : ∃ Z : List Value, Z = List.replicate 64 (.int .u8 0) := ⟨_, rfl⟩
          have hz : ∀ w, (zeroValue 44).run Try.prog w = .ok (.agg Z.toArray) w := fun w => by rw [hZ]; exact zero44 w
          have IZ : Hid ((Try.prog.info? 44).map (·.size) = some rg.toArray.size) := info44s.trans (by simp [RL.out])
          have HI : Hid ((Try.prog.info? 44).map (·.size) = some rg.length) := info44s.trans (by simp [RL.out])
          have SZ : Hid (Z.toArray.size = rg.toArray.size) := by show _ = _; rw [hZ]; simp [RL.out]
          have ON : Hid (rg.toArray.all (·.oneCell') = true) := all_oneCell_toArray R1.out
          have G7 : Hid ((w7.alloc (.cells Z.toArray 44)).heap[w7.heap.size]? = some (.cells Z.toArray 44 (0, 0))) := heap_alloc_new _ _
          have G8 : Hid ((w7.alloc (.cells rg.toArray 44)).heap[w7.heap.size]? = some (.cells rg.toArray 44 (0, 0))) := heap_alloc_new _ _
          have T8 := Lib.hid (T7.out.below ((Below.refl _ _).alloc (Nat.le_refl _) (.cells rg.toArray 44)))
          have B8 : Hid (Below w6.heap.size w6 (w7.alloc (.cells rg.toArray 44))) := B7.out.trans (((Below.refl _ _).alloc (Nat.le_refl _) (.cells rg.toArray 44)).mono B7.out.size)
          clear hZ
          obtain ⟨r8, hr8⟩ : ∃ r8, r8 = w7.heap.size := ⟨_, rfl⟩
          obtain ⟨w8, hw8⟩ : ∃ w8, w8 = w7.alloc (.cells rg.toArray 44) := ⟨_, rfl⟩
          rw [← hw8, ← hr8] at G8
          rw [← hw8] at T8 B8
          have HR8 := Lib.hid hr8
          have HW8 := Lib.hid hw8
          clear hr8 hw8
          have L8 : Hid (r8 < w8.heap.size) := (Array.getElem?_eq_some_iff.1 G8.out).1
          have RG : Hid (∀ W : World, W.heap[r8]? = some (.cells rg.toArray 44 (0, 0)) → W.rangeAt r8 0 rg) := fun W h j v hv => by
            rw [cell_of_row _ _ _ _ _ _ h, Nat.zero_add]; simpa using hv
          obtain ⟨sr, hsr⟩ := regPair B4.out.2.2.2.2.2 T8.out.xd G8.out
          have RP := Lib.hid hsr
          clear hsr
          have k5 := T8.out.xd.c5
          go_wp2_with (refine wpList_store_row rfl 44 (.tmp 16) (.tmp 116) rfl w7.heap.size rg.toArray rfl rfl 44 Z.toArray G7.out IZ.out SZ.out ON.out ?_; rw [alloc_setRow, ← HW8.out, ← HR8.out])
          clear hz HW8 HR8 G7
          clear k5
          refine wp_region_held_drew (S := fun W => Below w8.heap.size w8 W) (by kernel_rfl) ((Below.refl _ _).drew) (fun hS => ?_)
          refine' wpAnyH_take (i := 0) ?h1x0u ?hsx0u ?hfx0u ?hrx0u ?hQx0u (Or.inl ⟨?hwx0u, ?hyx0u⟩) hS ?restx0u
          case h1x0u => (simp only [List.getElem?_toArray, List.getElem?_cons_zero]; rfl)
          case hsx0u => kernel_rfl
          case hfx0u => kernel_rfl
          case hrx0u => kernel_rfl
          case hQx0u => exact fun _ _ _ h => h
          case hwx0u => rfl
          case hyx0u =>
            intro W hW
            go_simp
            try with_reducible rfl
          simp only [Act.put, List.setIfInBounds_toArray, List.set_cons_succ, List.set_cons_zero]
          refine' wpAnyH_take (i := 1) ?h1x1u ?hsx1u ?hfx1u ?hrx1u ?hQx1u (Or.inl ⟨?hwx1u, ?hyx1u⟩) hS ?restx1u
          case h1x1u => (simp only [List.getElem?_toArray, List.getElem?_cons_succ, List.getElem?_cons_zero]; rfl)
          case hsx1u => kernel_rfl
          case hfx1u => kernel_rfl
          case hrx1u => kernel_rfl
          case hQx1u => exact fun _ _ _ h => h
          case hwx1u => rfl
          case hyx1u =>
            intro W hW
            have sA := (SP.out W (B8.out.trans (hW.mono B8.out.size))).1
            go_simp
            try with_reducible rfl
          simp only [Act.put, List.setIfInBounds_toArray, List.set_cons_succ, List.set_cons_zero]
          refine' wpAnyH_take (i := 2) ?h1x2u ?hsx2u ?hfx2u ?hrx2u ?hQx2u (Or.inl ⟨?hwx2u, ?hyx2u⟩) hS ?restx2u
          case h1x2u => (simp only [List.getElem?_toArray, List.getElem?_cons_succ, List.getElem?_cons_zero]; rfl)
          case hsx2u => kernel_rfl
          case hfx2u => kernel_rfl
          case hrx2u => kernel_rfl
          case hQx2u => exact fun _ _ _ h => h
          case hwx2u => rfl
          case hyx2u =>
            intro W hW
            go_simp
            try with_reducible rfl
          simp only [Act.put, List.setIfInBounds_toArray, List.set_cons_succ, List.set_cons_zero]
          refine' wpAnyH_take (i := 3) ?h1x3u ?hsx3u ?hfx3u ?hrx3u ?hQx3u (Or.inl ⟨?hwx3u, ?hyx3u⟩) hS ?restx3u
          case h1x3u => (simp only [List.getElem?_toArray, List.getElem?_cons_succ, List.getElem?_cons_zero]; rfl)
          case hsx3u => kernel_rfl
          case hfx3u => kernel_rfl
          case hrx3u => kernel_rfl
          case hQx3u => exact fun _ _ _ h => h
          case hwx3u => rfl
          case hyx3u =>
            intro W hW
            have sB := (SP.out W (B8.out.trans (hW.mono B8.out.size))).2
            go_simp
            try with_reducible rfl
          simp only [Act.put, List.setIfInBounds_toArray, List.set_cons_succ, List.set_cons_zero]
          refine' wpAnyH_take (i := 4) ?h1x4u ?hsx4u ?hfx4u ?hrx4u ?hQx4u (Or.inl ⟨?hwx4u, ?hyx4u⟩) hS ?restx4u
          case h1x4u => (simp only [List.getElem?_toArray, List.getElem?_cons_succ, List.getElem?_cons_zero]; rfl)
          case hsx4u => kernel_rfl
          case hfx4u => kernel_rfl
          case hrx4u => kernel_rfl
          case hQx4u => exact fun _ _ _ h => h
          case hwx4u => rfl
          case hyx4u =>
            intro W hW
            go_simp
            try with_reducible rfl
          simp only [Act.put, List.setIfInBounds_toArray, List.set_cons_succ, List.set_cons_zero]
          refine' wpAnyH_take (i := 5) ?h1x5u ?hsx5u ?hfx5u ?hrx5u ?hQx5u (Or.inl ⟨?hwx5u, ?hyx5u⟩) hS ?restx5u
          case h1x5u => (simp only [List.getElem?_toArray, List.getElem?_cons_succ, List.getElem?_cons_zero]; rfl)
          case hsx5u => kernel_rfl
          case hfx5u => kernel_rfl
          case hrx5u => kernel_rfl
          case hQx5u => exact fun _ _ _ h => h
          case hwx5u => rfl
          case hyx5u =>
            intro W hW
            go_simp
            try with_reducible rfl
          simp only [Act.put, List.setIfInBounds_toArray, List.set_cons_succ, List.set_cons_zero]
          refine' wpAnyH_take (i := 6) ?h1x6u ?hsx6u ?hfx6u ?hrx6u ?hQx6u (Or.inl ⟨?hwx6u, ?hyx6u⟩) hS ?restx6u
          case h1x6u => (simp only [List.getElem?_toArray, List.getElem?_cons_succ, List.getElem?_cons_zero]; rfl)
          case hsx6u => kernel_rfl
          case hfx6u => kernel_rfl
          case hrx6u => kernel_rfl
          case hQx6u => exact fun _ _ _ h => h
          case hwx6u => rfl
          case hyx6u =>
            intro W hW
            go_simp
            try with_reducible rfl
          simp only [Act.put, List.setIfInBounds_toArray, List.set_cons_succ, List.set_cons_zero]
          refine' wpAnyH_take (i := 7) ?h1x7u ?hsx7u ?hfx7u ?hrx7u ?hQx7u (Or.inl ⟨?hwx7u, ?hyx7u⟩) hS ?restx7u
          case h1x7u => (simp only [List.getElem?_toArray, List.getElem?_cons_succ, List.getElem?_cons_zero]; rfl)
          case hsx7u => kernel_rfl
          case hfx7u => kernel_rfl
          case hrx7u => kernel_rfl
          case hQx7u => exact fun _ _ _ h => h
          case hwx7u => rfl
          case hyx7u =>
            intro W hW
            go_simp
            try with_reducible rfl
          simp only [Act.put, List.setIfInBounds_toArray, List.set_cons_succ, List.set_cons_zero]
          refine' wpAnyH_take (i := 8) ?h1x8u ?hsx8u ?hfx8u ?hrx8u ?hQx8u (Or.inl ⟨?hwx8u, ?hyx8u⟩) hS ?restx8u
          case h1x8u => (simp only [List.getElem?_toArray, List.getElem?_cons_succ, List.getElem?_cons_zero]; rfl)
          case hsx8u => kernel_rfl
          case hfx8u => kernel_rfl
          case hrx8u => kernel_rfl
          case hQx8u => exact fun _ _ _ h => h
          case hwx8u => rfl
          case hyx8u =>
            intro W hW
            go_simp
            try with_reducible rfl
          simp only [Act.put, List.setIfInBounds_toArray, List.set_cons_succ, List.set_cons_zero]
          refine' wpAnyH_take (i := 9) ?h1x9u ?hsx9u ?hfx9u ?hrx9u ?hQx9u (Or.inl ⟨?hwx9u, ?hyx9u⟩) hS ?restx9u
          case h1x9u => (simp only [List.getElem?_toArray, List.getElem?_cons_succ, List.getElem?_cons_zero]; rfl)
          case hsx9u => kernel_rfl
          case hfx9u => kernel_rfl
          case hrx9u => kernel_rfl
          case hQx9u => exact fun _ _ _ h => h
          case hwx9u => rfl
          case hyx9u =>
            intro W hW
            go_simp
            try with_reducible rfl
          simp only [Act.put, List.setIfInBounds_toArray, List.set_cons_succ, List.set_cons_zero]
          refine' wpAnyH_take (i := 10) ?h1x10u ?hsx10u ?hfx10u ?hrx10u ?hQx10u (Or.inl ⟨?hwx10u, ?hyx10u⟩) hS ?restx10u
          case h1x10u => (simp only [List.getElem?_toArray, List.getElem?_cons_succ, List.getElem?_cons_zero]; rfl)
          case hsx10u => kernel_rfl
          case hfx10u => kernel_rfl
          case hrx10u => kernel_rfl
          case hQx10u => exact fun _ _ _ h => h
          case hwx10u => rfl
          case hyx10u =>
            intro W hW
            go_simp
            try with_reducible rfl
          simp only [Act.put, List.setIfInBounds_toArray, List.set_cons_succ, List.set_cons_zero]
          refine' wpAnyH_take (i := 11) ?h1x11u ?hsx11u ?hfx11u ?hrx11u ?hQx11u (Or.inl ⟨?hwx11u, ?hyx11u⟩) hS ?restx11u
          case h1x11u => (simp only [List.getElem?_toArray, List.getElem?_cons_succ, List.getElem?_cons_zero]; rfl)
          case hsx11u => kernel_rfl
          case hfx11u => kernel_rfl
          case hrx11u => kernel_rfl
          case hQx11u => exact fun _ _ _ h => h
          case hwx11u => rfl
          case hyx11u =>
            intro W hW
            go_simp
            try with_reducible rfl
          simp only [Act.put, List.setIfInBounds_toArray, List.set_cons_succ, List.set_cons_zero]
          refine' wpAnyH_take (i := 12) ?h1x12u ?hsx12u ?hfx12u ?hrx12u ?hQx12u (Or.inl ⟨?hwx12u, ?hyx12u⟩) hS ?restx12u
          case h1x12u => (simp only [List.getElem?_toArray, List.getElem?_cons_succ, List.getElem?_cons_zero]; rfl)
          case hsx12u => kernel_rfl
          case hfx12u => kernel_rfl
          case hrx12u => kernel_rfl
          case hQx12u => exact fun _ _ _ h => h
          case hwx12u => rfl
          case hyx12u =>
            intro W hW
            go_simp
            try with_reducible rfl
          simp only [Act.put, List.setIfInBounds_toArray, List.set_cons_succ, List.set_cons_zero]
          refine' wpAnyH_take (i := 13) ?h1x13u ?hsx13u ?hfx13u ?hrx13u ?hQx13u (Or.inl ⟨?hwx13u, ?hyx13u⟩) hS ?restx13u
          case h1x13u => (simp only [List.getElem?_toArray, List.getElem?_cons_succ, List.getElem?_cons_zero]; rfl)
          case hsx13u => kernel_rfl
          case hfx13u => kernel_rfl
          case hrx13u => kernel_rfl
          case hQx13u => exact fun _ _ _ h => h
          case hwx13u => rfl
          case hyx13u =>
            intro W hW
            go_simp
            try with_reducible rfl
          simp only [Act.put, List.setIfInBounds_toArray, List.set_cons_succ, List.set_cons_zero]
          refine' wpAnyH_take (i := 14) ?h1x14u ?hsx14u ?hfx14u ?hrx14u ?hQx14u (Or.inl ⟨?hwx14u, ?hyx14u⟩) hS ?restx14u
          case h1x14u => (simp only [List.getElem?_toArray, List.getElem?_cons_succ, List.getElem?_cons_zero]; rfl)
          case hsx14u => kernel_rfl
          case hfx14u => kernel_rfl
          case hrx14u => kernel_rfl
          case hQx14u => exact fun _ _ _ h => h
          case hwx14u => rfl
          case hyx14u =>
            intro W hW
            go_simp
            try with_reducible rfl
          simp only [Act.put, List.setIfInBounds_toArray, List.set_cons_succ, List.set_cons_zero]
          refine' wpAnyH_take (i := 15) ?h1x15u ?hsx15u ?hfx15u ?hrx15u ?hQx15u (Or.inl ⟨?hwx15u, ?hyx15u⟩) hS ?restx15u
          case h1x15u => (simp only [List.getElem?_toArray, List.getElem?_cons_succ, List.getElem?_cons_zero]; rfl)
          case hsx15u => kernel_rfl
          case hfx15u => kernel_rfl
          case hrx15u => kernel_rfl
          case hQx15u => exact fun _ _ _ h => h
          case hwx15u => rfl
          case hyx15u =>
            intro W hW
            go_simp
            try with_reducible rfl
          simp only [Act.put, List.setIfInBounds_toArray, List.set_cons_succ, List.set_cons_zero]
          refine' wpAnyH_take (i := 16) ?h1x16u ?hsx16u ?hfx16u ?hrx16u ?hQx16u (Or.inl ⟨?hwx16u, ?hyx16u⟩) hS ?restx16u
          case h1x16u => (simp only [List.getElem?_toArray, List.getElem?_cons_succ, List.getElem?_cons_zero]; rfl)
          case hsx16u => kernel_rfl
          case hfx16u => kernel_rfl
          case hrx16u => kernel_rfl
          case hQx16u => exact fun _ _ _ h => h
          case hwx16u => rfl
          case hyx16u =>
            intro W hW
            go_simp
            try with_reducible rfl
          simp only [Act.put, List.setIfInBounds_toArray, List.set_cons_succ, List.set_cons_zero]
          refine' wpAnyH_take (i := 17) ?h1x17u ?hsx17u ?hfx17u ?hrx17u ?hQx17u (Or.inl ⟨?hwx17u, ?hyx17u⟩) hS ?restx17u
          case h1x17u => (simp only [List.getElem?_toArray, List.getElem?_cons_succ, List.getElem?_cons_zero]; rfl)
          case hsx17u => kernel_rfl
          case hfx17u => kernel_rfl
          case hrx17u => kernel_rfl
          case hQx17u => exact fun _ _ _ h => h
          case hwx17u => rfl
          case hyx17u =>
            intro W hW
            go_simp
            try with_reducible rfl
          simp only [Act.put, List.setIfInBounds_toArray, List.set_cons_succ, List.set_cons_zero]
          refine' wpAnyH_take (i := 18) ?h1x18u ?hsx18u ?hfx18u ?hrx18u ?hQx18u (Or.inl ⟨?hwx18u, ?hyx18u⟩) hS ?restx18u
          case h1x18u => (simp only [List.getElem?_toArray, List.getElem?_cons_succ, List.getElem?_cons_zero]; rfl)
          case hsx18u => kernel_rfl
          case hfx18u => kernel_rfl
          case hrx18u => kernel_rfl
          case hQx18u => exact fun _ _ _ h => h
          case hwx18u => rfl
          case hyx18u =>
            intro W hW
            go_simp
            try with_reducible rfl
          simp only [Act.put, List.setIfInBounds_toArray, List.set_cons_succ, List.set_cons_zero]
          refine' wpAnyH_take (i := 19) ?h1x19u ?hsx19u ?hfx19u ?hrx19u ?hQx19u (Or.inl ⟨?hwx19u, ?hyx19u⟩) hS ?restx19u
          case h1x19u => (simp only [List.getElem?_toArray, List.getElem?_cons_succ, List.getElem?_cons_zero]; rfl)
          case hsx19u => kernel_rfl
          case hfx19u => kernel_rfl
          case hrx19u => kernel_rfl
          case hQx19u => exact fun _ _ _ h => h
          case hwx19u => rfl
          case hyx19u =>
            intro W hW
            go_simp
            try with_reducible rfl
          simp only [Act.put, List.setIfInBounds_toArray, List.set_cons_succ, List.set_cons_zero]
          refine' wpAnyH_take (i := 20) ?h1x20u ?hsx20u ?hfx20u ?hrx20u ?hQx20u (Or.inl ⟨?hwx20u, ?hyx20u⟩) hS ?restx20u
          case h1x20u => (simp only [List.getElem?_toArray, List.getElem?_cons_succ, List.getElem?_cons_zero]; rfl)
          case hsx20u => kernel_rfl
          case hfx20u => kernel_rfl
          case hrx20u => kernel_rfl
          case hQx20u => exact fun _ _ _ h => h
          case hwx20u => rfl
          case hyx20u =>
            intro W hW
            have rA := (RP.out W hW).1
            go_simp
            try with_reducible rfl
          simp only [Act.put, List.setIfInBounds_toArray, List.set_cons_succ, List.set_cons_zero]
          refine' wpAnyH_take (i := 21) ?h1x21u ?hsx21u ?hfx21u ?hrx21u ?hQx21u (Or.inl ⟨?hwx21u, ?hyx21u⟩) hS ?restx21u
          case h1x21u => (simp only [List.getElem?_toArray, List.getElem?_cons_succ, List.getElem?_cons_zero]; rfl)
          case hsx21u => kernel_rfl
          case hfx21u => kernel_rfl
          case hrx21u => kernel_rfl
          case hQx21u => exact fun _ _ _ h => h
          case hwx21u => rfl
          case hyx21u =>
            intro W hW
            go_simp
            try with_reducible rfl
          simp only [Act.put, List.setIfInBounds_toArray, List.set_cons_succ, List.set_cons_zero]
          refine' wpAnyH_take (i := 22) ?h1x22u ?hsx22u ?hfx22u ?hrx22u ?hQx22u (Or.inl ⟨?hwx22u, ?hyx22u⟩) hS ?restx22u
          case h1x22u => (simp only [List.getElem?_toArray, List.getElem?_cons_succ, List.getElem?_cons_zero]; rfl)
          case hsx22u => kernel_rfl
          case hfx22u => kernel_rfl
          case hrx22u => kernel_rfl
          case hQx22u => exact fun _ _ _ h => h
          case hwx22u => rfl
          case hyx22u =>
            intro W hW
            go_simp
            try with_reducible rfl
          simp only [Act.put, List.setIfInBounds_toArray, List.set_cons_succ, List.set_cons_zero]
          refine' wpAnyH_take (i := 23) ?h1x23u ?hsx23u ?hfx23u ?hrx23u ?hQx23u (Or.inl ⟨?hwx23u, ?hyx23u⟩) hS ?restx23u
          case h1x23u => (simp only [List.getElem?_toArray, List.getElem?_cons_succ, List.getElem?_cons_zero]; rfl)
          case hsx23u => kernel_rfl
          case hfx23u => kernel_rfl
          case hrx23u => kernel_rfl
          case hQx23u => exact fun _ _ _ h => h
          case hwx23u => rfl
          case hyx23u =>
            intro W hW
            go_simp
            try with_reducible rfl
          simp only [Act.put, List.setIfInBounds_toArray, List.set_cons_succ, List.set_cons_zero]
          refine' wpAnyH_take (i := 24) ?h1x24u ?hsx24u ?hfx24u ?hrx24u ?hQx24u (Or.inl ⟨?hwx24u, ?hyx24u⟩) hS ?restx24u
          case h1x24u => (simp only [List.getElem?_toArray, List.getElem?_cons_succ, List.getElem?_cons_zero]; rfl)
          case hsx24u => kernel_rfl
          case hfx24u => kernel_rfl
          case hrx24u => kernel_rfl
          case hQx24u => exact fun _ _ _ h => h
          case hwx24u => rfl
          case hyx24u =>
            intro W hW
            have k2 := (T8.out.xd.below hW).c2
            go_simp
            try with_reducible rfl
          simp only [Act.put, List.setIfInBounds_toArray, List.set_cons_succ, List.set_cons_zero]
          refine' wpAnyH_take (i := 25) ?h1x25u ?hsx25u ?hfx25u ?hrx25u ?hQx25u (Or.inl ⟨?hwx25u, ?hyx25u⟩) hS ?restx25u
          case h1x25u => (simp only [List.getElem?_toArray, List.getElem?_cons_succ, List.getElem?_cons_zero]; rfl)
          case hsx25u => kernel_rfl
          case hfx25u => kernel_rfl
          case hrx25u => kernel_rfl
          case hQx25u => exact fun _ _ _ h => h
          case hwx25u => rfl
          case hyx25u =>
            intro W hW
            have rB := (RP.out W hW).2
            go_simp
            try with_reducible rfl
          simp only [Act.put, List.setIfInBounds_toArray, List.set_cons_succ, List.set_cons_zero]
          refine' wpAnyH_take (i := 26) ?h1x26u ?hsx26u ?hfx26u ?hrx26u ?hQx26u (Or.inl ⟨?hwx26u, ?hyx26u⟩) hS ?restx26u
          case h1x26u => (simp only [List.getElem?_toArray, List.getElem?_cons_succ, List.getElem?_cons_zero]; rfl)
          case hsx26u => kernel_rfl
          case hfx26u => kernel_rfl
          case hrx26u => kernel_rfl
          case hQx26u => exact fun _ _ _ h => h
          case hwx26u => rfl
          case hyx26u =>
            intro W hW
            go_simp
            try with_reducible rfl
          simp only [Act.put, List.setIfInBounds_toArray, List.set_cons_succ, List.set_cons_zero]
          refine' wpAnyH_take (i := 27) ?h1x27u ?hsx27u ?hfx27u ?hrx27u ?hQx27u (Or.inl ⟨?hwx27u, ?hyx27u⟩) hS ?restx27u
          case h1x27u => (simp only [List.getElem?_toArray, List.getElem?_cons_succ, List.getElem?_cons_zero]; rfl)
          case hsx27u => kernel_rfl
          case hfx27u => kernel_rfl
          case hrx27u => kernel_rfl
          case hQx27u => exact fun _ _ _ h => h
          case hwx27u => rfl
          case hyx27u =>
            intro W hW
            go_simp
            try with_reducible rfl
          simp only [Act.put, List.setIfInBounds_toArray, List.set_cons_succ, List.set_cons_zero]
          refine' wpAnyH_take (i := 28) ?h1x28u ?hsx28u ?hfx28u ?hrx28u ?hQx28u (Or.inl ⟨?hwx28u, ?hyx28u⟩) hS ?restx28u
          case h1x28u => (simp only [List.getElem?_toArray, List.getElem?_cons_succ, List.getElem?_cons_zero]; rfl)
          case hsx28u => kernel_rfl
          case hfx28u => kernel_rfl
          case hrx28u => kernel_rfl
          case hQx28u => exact fun _ _ _ h => h
          case hwx28u => rfl
          case hyx28u =>
            intro W hW
            go_simp
            try with_reducible rfl
          simp only [Act.put, List.setIfInBounds_toArray, List.set_cons_succ, List.set_cons_zero]
          refine' wpAnyH_take (i := 29) ?h1x29u ?hsx29u ?hfx29u ?hrx29u ?hQx29u (Or.inl ⟨?hwx29u, ?hyx29u⟩) hS ?restx29u
          case h1x29u => (simp only [List.getElem?_toArray, List.getElem?_cons_succ, List.getElem?_cons_zero]; rfl)
          case hsx29u => kernel_rfl
          case hfx29u => kernel_rfl
          case hrx29u => kernel_rfl
          case hQx29u => exact fun _ _ _ h => h
          case hwx29u => rfl
          case hyx29u =>
            intro W hW
            go_simp
            try with_reducible rfl
          simp only [Act.put, List.setIfInBounds_toArray, List.set_cons_succ, List.set_cons_zero]
          refine' wpAnyH_take (i := 30) ?h1x30u ?hsx30u ?hfx30u ?hrx30u ?hQx30u (Or.inl ⟨?hwx30u, ?hyx30u⟩) hS ?restx30u
          case h1x30u => (simp only [List.getElem?_toArray, List.getElem?_cons_succ, List.getElem?_cons_zero]; rfl)
          case hsx30u => kernel_rfl
          case hfx30u => kernel_rfl
          case hrx30u => kernel_rfl
          case hQx30u => exact fun _ _ _ h => h
          case hwx30u => rfl
          case hyx30u =>
            intro W hW
            go_simp
            try with_reducible rfl
          simp only [Act.put, List.setIfInBounds_toArray, List.set_cons_succ, List.set_cons_zero]
          refine' wpAnyH_take (i := 31) ?h1x31u ?hsx31u ?hfx31u ?hrx31u ?hQx31u (Or.inl ⟨?hwx31u, ?hyx31u⟩) hS ?restx31u
          case h1x31u => (simp only [List.getElem?_toArray, List.getElem?_cons_succ, List.getElem?_cons_zero]; rfl)
          case hsx31u => kernel_rfl
          case hfx31u => kernel_rfl
          case hrx31u => kernel_rfl
          case hQx31u => exact fun _ _ _ h => h
          case hwx31u => rfl
          case hyx31u =>
            intro W hW
            go_simp
            try with_reducible rfl
          simp only [Act.put, List.setIfInBounds_toArray, List.set_cons_succ, List.set_cons_zero]
          refine' wpAnyH_take (i := 32) ?h1x32u ?hsx32u ?hfx32u ?hrx32u ?hQx32u (Or.inl ⟨?hwx32u, ?hyx32u⟩) hS ?restx32u
          case h1x32u => (simp only [List.getElem?_toArray, List.getElem?_cons_succ, List.getElem?_cons_zero]; rfl)
          case hsx32u => kernel_rfl
          case hfx32u => kernel_rfl
          case hrx32u => kernel_rfl
          case hQx32u => exact fun _ _ _ h => h
          case hwx32u => rfl
          case hyx32u =>
            intro W hW
            go_simp
            try with_reducible rfl
          simp only [Act.put, List.setIfInBounds_toArray, List.set_cons_succ, List.set_cons_zero]
          refine' wpAnyH_take (i := 33) ?h1x33u ?hsx33u ?hfx33u ?hrx33u ?hQx33u (Or.inr ⟨?hwx33u, rfl⟩) hS ?restx33u
          case h1x33u => (simp only [List.getElem?_toArray, List.getElem?_cons_succ, List.getElem?_cons_zero]; rfl)
          case hsx33u => kernel_rfl
          case hfx33u => kernel_rfl
          case hrx33u => kernel_rfl
          case hQx33u => exact fun _ _ _ h => h
          case hwx33u => rfl
          simp only [Act.put, List.setIfInBounds_toArray, List.set_cons_succ, List.set_cons_zero]
          refine' wpAnyH_take (i := 34) ?h1x34u ?hsx34u ?hfx34u ?hrx34u ?hQx34u (Or.inr ⟨?hwx34u, rfl⟩) hS ?restx34u
          case h1x34u => (simp only [List.getElem?_toArray, List.getElem?_cons_succ, List.getElem?_cons_zero]; rfl)
          case hsx34u => kernel_rfl
          case hfx34u => kernel_rfl
          case hrx34u => kernel_rfl
          case hQx34u => exact fun _ _ _ h => h
          case hwx34u => rfl
          simp only [Act.put, List.setIfInBounds_toArray, List.set_cons_succ, List.set_cons_zero]
          refine' wpAnyH_take (i := 35) ?h1x35u ?hsx35u ?hfx35u ?hrx35u ?hQx35u (Or.inr ⟨?hwx35u, rfl⟩) hS ?restx35u
          case h1x35u => (simp only [List.getElem?_toArray, List.getElem?_cons_succ, List.getElem?_cons_zero]; rfl)
          case hsx35u => kernel_rfl
          case hfx35u => kernel_rfl
          case hrx35u => kernel_rfl
          case hQx35u => exact fun _ _ _ h => h
          case hwx35u => rfl
          simp only [Act.put, List.setIfInBounds_toArray, List.set_cons_succ, List.set_cons_zero]
          refine' wpAnyH_take (i := 36) ?h1x36u ?hsx36u ?hfx36u ?hrx36u ?hQx36u (Or.inl ⟨?hwx36u, ?hyx36u⟩) hS ?restx36u
          case h1x36u => (simp only [List.getElem?_toArray, List.getElem?_cons_succ, List.getElem?_cons_zero]; rfl)
          case hsx36u => kernel_rfl
          case hfx36u => kernel_rfl
          case hrx36u => kernel_rfl
          case hQx36u => exact fun _ _ _ h => h
          case hwx36u => rfl
          case hyx36u =>
            intro W hW
            go_simp
            try with_reducible rfl
          simp only [Act.put, List.setIfInBounds_toArray, List.set_cons_succ, List.set_cons_zero]
          refine' wpAnyH_take (i := 37) ?h1x37u ?hsx37u ?hfx37u ?hrx37u ?hQx37u (Or.inl ⟨?hwx37u, ?hyx37u⟩) hS ?restx37u
          case h1x37u => (simp only [List.getElem?_toArray, List.getElem?_cons_succ, List.getElem?_cons_zero]; rfl)
          case hsx37u => kernel_rfl
          case hfx37u => kernel_rfl
          case hrx37u => kernel_rfl
          case hQx37u => exact fun _ _ _ h => h
          case hwx37u => rfl
          case hyx37u =>
            intro W hW
            go_simp
            try with_reducible rfl
          simp only [Act.put, List.setIfInBounds_toArray, List.set_cons_succ, List.set_cons_zero]
          refine wpAnyH_done (by kernel_rfl) ?_ _
          go_wp2_with fail
          go_roundg (min l 120 - (i + 1))
          case measure => have := HR.out; omega
          case rel => exact ⟨i + 1, by have := HR.out; omega, by go_num, _, _, _, _, _, _, _, _, _, _, _, T8.out.below hS, B4.out⟩
    · by_cases hi1 : i < l
      · have hi2 : ¬ i < 120 := by omega
        go_wp2_with fail
        refine (aliveD _).mono ?_
        rintro e w8 ⟨rfl, hb⟩
        have B8 := Lib.hid (O.out.b.trans (hb.mono O.out.b.size))
        clear hb
        go_wp2_with fail
        go_ret
        exact ⟨rfl, B8.out⟩
      · go_wp2_with fail
        refine (aliveD _).mono ?_
        rintro e w8 ⟨rfl, hb⟩
        have B8 := Lib.hid (O.out.b.trans (hb.mono O.out.b.size))
        clear hb
        go_wp2_with fail
        go_ret
        exact ⟨rfl, B8.out⟩
end Go.Proofs.Ytklhnibmpdaioaa.diskLives
