/-
  Contracts of the document's own functions of package hmac: a mark; and of hmac.Extract. Condition: the slices read as bytes, of bounded length.
-/
import Derived.Test.YtmkaagiabafooaaDoorHeld
import Derived.Test.YtmkaagiabafooaaDoorAlivc
namespace Go.Proofs.YtmkaagiabafooaaDoor
open Go.RowKit
theorem own_apart {w : World} {b b' : Nat} {v u : Value} {xs ys : List Int} (h : Own w b v xs) (k : Own w b' u ys) (hx : 0 < xs.length) (hy : 0 < ys.length) (hne : nth xs 0 ≠ nth ys 0) : v.ownBlock ≠ u.ownBlock := by
  obtain ⟨g, c, rfl, _, _, _, h1⟩ := h.cells hx
  obtain ⟨g', c', rfl, _, _, _, h2⟩ := k.cells hy
  intro e
  simp only [Value.ownBlock, Option.some.injEq] at e
  subst e
  have a := h1 0 hx
  rw [h2 0 hy] at a
  simp only [Option.some.injEq, Value.int.injEq, true_and] at a
  exact hne a.symm
theorem xorb_ne : ∀ x : Int, 0 ≤ x ∧ x ≤ 255 → xorb 54 x ≠ xorb 92 x := by
  intro x hx
  obtain ⟨n, rfl⟩ := Int.eq_ofNat_of_zero_le hx.1
  have hn : n < 256 := by omega
  unfold xorb
  have key : ∀ m : Fin 256, bits .xor .u8 (m.val : Int) 54 ≠ bits .xor .u8 (m.val : Int) 92 := by decide +kernel
  exact key ⟨n, hn⟩
/-- The first i bytes of a pad. -/
def padk (L : List Int) (c : Int) (i : Nat) : List Int := (L.take i).map (xorb c)
theorem padk_len (L : List Int) (c : Int) (i : Nat) (h : i ≤ L.length) : (padk L c i).length = i := by simp [padk]; omega
theorem padk_next (L : List Int) (c : Int) (i : Nat) (h : i < L.length) : padk L c (i + 1) = padk L c i ++ [xorb c (nth L i)] := by unfold padk; rw [take_snoc L i h]; simp
theorem padk_nth (L : List Int) (c : Int) (i : Nat) (h : 0 < i) (hl : i ≤ L.length) : nth (padk L c i) 0 = xorb c (nth L 0) := by
  simp [padk, nth, List.getD, List.getElem?_take_of_lt h, show 0 < L.length by omega]
theorem padk_all (L : List Int) (c : Int) (h : L.length = 64) : padk L c 64 = L.map (xorb c) := by unfold padk; rw [List.take_of_length_le (by omega)]
theorem fill_nth (k : List Int) (i : Nat) : nth (fill k) i = if i < (short k).length then nth (short k) i else 0 := by
  unfold fill nth
  by_cases h : i < (short k).length
  · rw [if_pos h]; simp [List.getD, List.getElem?_append_left h]
  · rw [if_neg h]
    simp only [List.getD, List.getElem?_append_right (show (short k).length ≤ i by omega), List.getElem?_replicate]
    split <;> rfl
theorem five_one (x : Int) (w : World) (h : 0 ≤ x ∧ x ≤ 255) : Sees (w.alloc (.cells #[.int .u8 x] 5)) (.slice (some ⟨w.heap.size, 0, none⟩) 1 1) [x] := five_sees x w h
/-- What a round of the pads keeps. -/
def TwoPads (w0 wr : World) (L : List Int) (i : Nat) (q1 : Option Addr) (c1 : Nat) (q2 : Option Addr) (c2 : Nat) : Prop :=
  Own wr w0.heap.size (.slice q1 i c1) (padk L 54 i) ∧ Own wr w0.heap.size (.slice q2 i c2) (padk L 92 i) ∧ (i = 0 → q2 = none) ∧ Below w0.heap.size w0 wr
theorem TwoPads.next {w0 wr : World} {L : List Int} {i : Nat} {q1 q2 : Option Addr} {c1 c2 : Nat} (h : TwoPads w0 wr L i q1 c1 q2 c2) (hL : L.length = 64) (hb : Byt L) (hi : i < 64) (x : Int) (hx : x = nth L i) :
    ∃ p1 d1 w1 p2 d2 w2, (Builtin.append_ #[22, 22] 22 #[.slice q1 i c1, .slice (some ⟨wr.heap.size, 0, none⟩) 1 1]).run Tryd.prog (wr.alloc (.cells #[.int .u8 (bits .xor .u8 x 54)] 5)) = .ok (.slice p1 (i + 1) d1) w1 ∧
      (Builtin.append_ #[22, 22] 22 #[.slice q2 i c2, .slice (some ⟨w1.heap.size, 0, none⟩) 1 1]).run Tryd.prog (w1.alloc (.cells #[.int .u8 (bits .xor .u8 x 92)] 5)) = .ok (.slice p2 (i + 1) d2) w2 ∧ TwoPads w0 w2 L (i + 1) p1 d1 p2 d2 := by
  obtain ⟨o1, o2, h0, hbl⟩ := h
  have hxb : 0 ≤ x ∧ x ≤ 255 := by rw [hx]; exact hb.nth i
  have h0b := hb.nth 0
  have n1 := padk_next L 54 i (by omega)
  have n2 := padk_next L 92 i (by omega)
  have l1 := padk_len L 54 i (by omega)
  have l2 := padk_len L 92 i (by omega)
  have ba : Below wr.heap.size wr (wr.alloc (.cells #[.int .u8 (bits .xor .u8 x 54)] 5)) := (Below.refl _ _).alloc (Nat.le_refl _) _
  have s1 := five_sees (bits .xor .u8 x 54) wr (xorb_bd 54 x (by omega) hxb)
  obtain ⟨p1, d1, w1, r1, oo1, g1, b1⟩ := app (o1.below ba) s1 (by rw [l1]; simp; omega) (by have := hbl.size; simp; omega)
  rw [l1] at r1 oo1
  have oo1' : Own w1 w0.heap.size (.slice p1 (i + 1) d1) (padk L 54 (i + 1)) := by rw [n1, ← hx]; exact oo1
  have hap : (Value.slice q2 i c2).ownBlock = none ∨ (Value.slice q2 i c2).ownBlock ≠ (Value.slice q1 i c1).ownBlock := by
    by_cases hi0 : i = 0
    · left; rw [h0 hi0]; rfl
    · right
      exact fun e => own_apart o1 o2 (by omega) (by omega) (by rw [padk_nth L 54 i (by omega) (by omega), padk_nth L 92 i (by omega) (by omega)]; exact xorb_ne _ h0b) e.symm
  have o2a : Own w1 w0.heap.size (.slice q2 i c2) (padk L 92 i) := (o2.below ba).grown g1 hap
  have hb1 : Below w0.heap.size w0 w1 := (hbl.trans (ba.mono hbl.size)).trans b1
  have bb : Below w1.heap.size w1 (w1.alloc (.cells #[.int .u8 (bits .xor .u8 x 92)] 5)) := (Below.refl _ _).alloc (Nat.le_refl _) _
  have s2 := five_sees (bits .xor .u8 x 92) w1 (xorb_bd 92 x (by omega) hxb)
  obtain ⟨p2, d2, w2, r2, oo2, g2, b2⟩ := app (o2a.below bb) s2 (by rw [l2]; simp; omega) (by have := hb1.size; simp; omega)
  rw [l2] at r2 oo2
  have oo2' : Own w2 w0.heap.size (.slice p2 (i + 1) d2) (padk L 92 (i + 1)) := by rw [n2, ← hx]; exact oo2
  have l1' := padk_len L 54 (i + 1) (by omega)
  have hap2 : (Value.slice p1 (i + 1) d1).ownBlock = none ∨ (Value.slice p1 (i + 1) d1).ownBlock ≠ (Value.slice q2 i c2).ownBlock := by
    by_cases hi0 : i = 0
    · right
      obtain ⟨g, c, hv, _⟩ := oo1'.cells (by omega)
      rw [h0 hi0, l1'] at *
      rw [hv]; simp [Value.ownBlock]
    · right
      exact own_apart oo1' o2a (by omega) (by omega) (by rw [padk_nth L 54 (i + 1) (by omega) (by omega), padk_nth L 92 i (by omega) (by omega)]; exact xorb_ne _ h0b)
  exact ⟨p1, d1, w1, p2, d2, w2, r1, r2, (oo1'.below bb).grown g2 hap2, oo2', fun e => by omega, (hb1.trans (bb.mono hb1.size)).trans b2⟩
set_option maxRecDepth 100000 in
set_option maxHeartbeats 8000000 in
theorem macD (vk vb : Value) (k b : List Int) (w : World) (hk : Sees w vk k) (hb : Sees w vb b) (lk : k.length ≤ 100000) (lb : b.length ≤ 100000) : Calls Tryd.prog 24 #[vk, vb] w (OwnP w (mac k b)) := by
  obtain ⟨x1, c1, rfl, _⟩ := id hk.form
  obtain ⟨y1, d1, rfl, _⟩ := id hb.form
  have hfl := fill_len k hk.1
  have hfb := fill_byt k hk.1
  have hsl := short_le k hk.1
  have HMAC : Hid (mac k b = sha (padk (fill k) 92 64 ++ sha (padk (fill k) 54 64 ++ b))) := by show _ = _; rw [padk_all _ _ hfl, padk_all _ _ hfl]; rfl
  have SL := Lib.hid (mac_len k b hk.1)
  have SH : Hid (∀ xs, Byt xs → (sha xs).length = 32) := sha_len
  have L92 := Lib.hid (padk_len (fill k) 92 64 (by omega))
  have L54 := Lib.hid (padk_len (fill k) 54 64 (by omega))
  have HNE : Hid (nth (padk (fill k) 54 64) 0 ≠ nth (padk (fill k) 92 64) 0) := by
    show _ ≠ _
    rw [padk_nth _ 54 64 (by omega) (by omega), padk_nth _ 92 64 (by omega) (by omega)]; exact xorb_ne _ (hfb.nth 0)
  have HNX : Hid (∀ w0 wr i q1 c1 q2 c2, TwoPads w0 wr (fill k) i q1 c1 q2 c2 → i < 64 → ∀ x, x = nth (fill k) i → ∃ p1 d1 w1 p2 d2 w2, (Builtin.append_ #[22, 22] 22 #[.slice q1 i c1, .slice (some ⟨wr.heap.size, 0, none⟩) 1 1]).run Tryd.prog (wr.alloc (.cells #[.int .u8 (bits .xor .u8 x 54)] 5)) = .ok (.slice p1 (i + 1) d1) w1 ∧
      (Builtin.append_ #[22, 22] 22 #[.slice q2 i c2, .slice (some ⟨w1.heap.size, 0, none⟩) 1 1]).run Tryd.prog (w1.alloc (.cells #[.int .u8 (bits .xor .u8 x 92)] 5)) = .ok (.slice p2 (i + 1) d2) w2 ∧ TwoPads w0 w2 (fill k) (i + 1) p1 d1 p2 d2) := fun w0 wr i q1 c1 q2 c2 h hi x hx => h.next hfl hfb hi x hx
  have HFN : Hid (∀ i, nth (fill k) i = if i < (short k).length then nth (short k) i else 0) := fill_nth k
  have HSB : Hid (Byt (short k)) := short_byt k hk.1
  have LB := Lib.hid lb
  obtain ⟨L, hL⟩ : ∃ L, L = fill k := ⟨_, rfl⟩
  rw [← hL] at HMAC L92 L54 HNE HNX HFN
  by_cases h64 : 64 < k.length
  · have hss : short k = sha k := by unfold short; rw [if_pos h64]
    have SD := Lib.hid (sumD _ k (by omega) w hk)
    rw [← hss] at SD
    have h64' : (64 : Int) < k.length := by omega
    have HB := Lib.hid hb
    obtain ⟨S, hS⟩ : ∃ S, S = short k := ⟨_, rfl⟩
    rw [← hS] at SD HFN HSB hsl
    clear hfl hfb hk hb hss hS hL
    go_enter Tryd.func24, Tryd.ntmps24
    go_wp2_with fail
    refine SD.out.mono ?_
    rintro e wz ⟨x0, c0, rfl, hoz, hbz⟩
    have HSZ := Lib.hid hoz.sees
    have HBZ := Lib.hid hbz
    obtain ⟨m, hm⟩ : ∃ m, m = S.length := ⟨_, rfl⟩
    rw [← hm] at HSZ hsl ⊢
    have HM := Lib.hid hm
    have hmi : (m : Int) ≤ 64 := by omega
    clear hoz hbz hm
    go_wp2_with fail
    go_loopw [5, 6, 7, 8] (fun v5 v6 vi _ wr => ∃ (i : Nat) (q1 : Option Addr) (d1 : Nat) (q2 : Option Addr) (d2 : Nat), i ≤ 64 ∧ vi = .int .i64 i ∧ v5 = .slice q1 i d1 ∧ v6 = .slice q2 i d2 ∧ TwoPads wz wr L i q1 d1 q2 d2) (fun _ _ vi _ _ => 64 - (intOf vi).toNat)
    case atStart => exact ⟨0, none, 0, none, 0, by omega, rfl, rfl, rfl, own_nil _ _, own_nil _ _, fun _ => rfl, Below.refl _ _⟩
    case round =>
      obtain ⟨i, q1, d1, q2, d2, hi, rfl, rfl, rfl, htp⟩ := hrel
      have HTP := Lib.hid htp
      have hbw := htp.2.2.2
      have SZ := Lib.hid (HSZ.out.below hbw)
      clear htp hbw
      by_cases hlt : i < 64
      · by_cases hin : i < m
        · obtain ⟨p1, e1, w1, p2, e2, w2, r1, r2, tp⟩ := HNX.out _ _ _ _ _ _ _ HTP.out hlt (nth S i) (by rw [HFN.out, if_pos (by rw [← HM.out]; exact hin)])
          have R1 := Lib.hid r1
          have R2 := Lib.hid r2
          have TP := Lib.hid tp
          have hcell : ∃ b' o', x0 = some ⟨b', o', none⟩ ∧ wr.cell? ⟨b', o' + i, none⟩ = some (.int .u8 (nth S i)) := by
            obtain ⟨_, ⟨_, h⟩ | ⟨_, _, _, h, _⟩ | ⟨b', o', cap, h, _, _, _, hc⟩⟩ := SZ.out
            · rw [h] at HM; have := HM.out; simp at this; omega
            · rw [h] at HM; have := HM.out; simp at this; omega
            · simp only [Value.slice.injEq] at h
              exact ⟨b', o', h.1, hc i (by rw [← HM.out]; exact hin)⟩
          obtain ⟨b', o', rfl, hc⟩ := hcell
          have hbd := HSB.out.nth i
          obtain ⟨y0, y1⟩ := hbd
          clear r1 r2 tp
          generalize nth S i = y at *
          go_wp2_with (first
            | (at_builtin; refine wpList_app rfl (.tmp 26) (.tmp 29) rfl rfl rfl rfl R1.out ?_)
            | (at_builtin; refine wpList_app rfl (.tmp 31) (.tmp 34) rfl rfl rfl rfl R2.out ?_))
          go_roundw
          case rel => exact ⟨i + 1, p1, e1, p2, e2, by omega, by go_num, rfl, rfl, TP.out⟩
          case measure => simp [intOf]; omega
        · obtain ⟨p1, e1, w1, p2, e2, w2, r1, r2, tp⟩ := HNX.out _ _ _ _ _ _ _ HTP.out hlt 0 (by rw [HFN.out, if_neg (by rw [← HM.out]; exact hin)])
          have R1 := Lib.hid r1
          have R2 := Lib.hid r2
          have TP := Lib.hid tp
          clear r1 r2 tp
          have x54 : bits .xor .u8 0 54 = 54 := by kernel_rfl
          have x92 : bits .xor .u8 0 92 = 92 := by kernel_rfl
          rw [x54] at R1
          rw [x92] at R2
          go_wp2_with (first
            | (at_builtin; refine wpList_app rfl (.tmp 26) (.tmp 29) rfl rfl rfl rfl R1.out ?_)
            | (at_builtin; refine wpList_app rfl (.tmp 31) (.tmp 34) rfl rfl rfl rfl R2.out ?_))
          go_roundw
          case rel => exact ⟨i + 1, p1, e1, p2, e2, by omega, by go_num, rfl, rfl, TP.out⟩
          case measure => simp [intOf]; omega
      · obtain rfl : i = 64 := by omega
        obtain ⟨o1, o2, _, hbw⟩ := HTP.out
        have hbz := HBZ.out.trans (hbw.mono HBZ.out.size)
        obtain ⟨p1, e1, w1, r1, oo1, g1, b1⟩ := app o1 (HB.out.below hbz) (by rw [L54.out]; omega) hbw.size
        rw [L54.out] at r1 oo1
        have hbz1 : Below wz.heap.size wz w1 := hbw.trans b1
        have oo2 : Own w1 wz.heap.size (.slice q2 64 d2) (padk L 92 64) := o2.grown g1 (.inr (fun e => own_apart o1 o2 (by rw [L54.out]; omega) (by rw [L92.out]; omega) HNE.out e.symm))
        have R1 := Lib.hid r1
        have O1 := Lib.hid oo1
        have O2 := Lib.hid oo2
        have BZ1 := Lib.hid hbz1
        have BL := Lib.hid LB.out
        clear o1 o2 hbw hbz r1 oo1 g1 b1 hbz1 oo2 HTP SZ
        go_wp2_with (at_builtin; refine wpList_app rfl (.tmp 37) (.tmp 38) rfl rfl rfl rfl R1.out ?_)
        refine (sumD _ _ (by rw [List.length_append, L54.out]; omega) _ O1.out.sees).mono ?_
        rintro e w2 ⟨x2, c2, rfl, ho2, hb2⟩
        have hl2 := SH.out _ O1.out.1
        obtain ⟨p3, e3, w3, r3, oo3, g3, b3⟩ := app (O2.out.below hb2) ho2.sees (by rw [L92.out, hl2]; omega) (by have := BZ1.out.size; have := hb2.size; omega)
        rw [L92.out, hl2] at r3
        rw [L92.out] at oo3
        rw [hl2] at ⊢ oo3
        have R3 := Lib.hid r3
        have O3 := Lib.hid oo3
        have BZ3 : Hid (Below wz.heap.size wz w3) := (BZ1.out.trans (hb2.mono BZ1.out.size)).trans b3
        clear ho2 hb2 r3 oo3 g3 b3
        go_wp2_with (at_builtin; refine wpList_app rfl (.tmp 36) (.tmp 40) rfl rfl rfl rfl R3.out ?_)
        refine (sumD _ _ (by rw [List.length_append, L92.out, hl2]; omega) _ O3.out.sees).mono ?_
        rintro e w4 ⟨x4, c4, rfl, ho4, hb4⟩
        rw [← HMAC.out] at ho4 ⊢
        have O4 := Lib.hid ho4
        have B4 : Hid (Below w.heap.size w w4) := HBZ.out.trans ((BZ3.out.trans (hb4.mono BZ3.out.size)).mono HBZ.out.size)
        have BZ4 : Hid (w.heap.size ≤ w3.heap.size) := Nat.le_trans HBZ.out.size BZ3.out.size
        clear ho4 hb4
        go_wp2_with fail
        go_ret
        exact ⟨_, _, rfl, O4.out.lower BZ4.out, B4.out⟩
  · have hss : short k = k := by unfold short; rw [if_neg h64]
    have h64' : ¬ (64 : Int) < k.length := by omega
    have HB := Lib.hid hb
    have HSZ := Lib.hid hk
    obtain ⟨m, hm⟩ : ∃ m, m = k.length := ⟨_, rfl⟩
    rw [← hm] at HSZ h64' ⊢
    obtain ⟨x0, hx0⟩ : ∃ x0, x0 = x1 := ⟨_, rfl⟩
    subst hx0
    obtain ⟨S, hS⟩ : ∃ S, S = short k := ⟨_, rfl⟩
    rw [hss] at hS
    rw [hss] at HFN HSB hsl
    have HM : Hid (m = k.length) := hm
    obtain ⟨wz, hwz⟩ : ∃ wz, wz = w := ⟨_, rfl⟩
    have HBZ : Hid (Below w.heap.size w wz) := by rw [hwz]; exact Below.refl _ _
    rw [← hwz] at HSZ ⊢
    rw [← hS] at HFN HSB HM HSZ
    have HWZ := Lib.hid hwz
    clear hfl hfb hk hb hss hS hm hwz hL
    go_enter Tryd.func24, Tryd.ntmps24
    go_wp2_with fail
    go_loopw [5, 6, 7, 8] (fun v5 v6 vi _ wr => ∃ (i : Nat) (q1 : Option Addr) (d1 : Nat) (q2 : Option Addr) (d2 : Nat), i ≤ 64 ∧ vi = .int .i64 i ∧ v5 = .slice q1 i d1 ∧ v6 = .slice q2 i d2 ∧ TwoPads wz wr L i q1 d1 q2 d2) (fun _ _ vi _ _ => 64 - (intOf vi).toNat)
    case atStart => exact ⟨0, none, 0, none, 0, by omega, rfl, rfl, rfl, own_nil _ _, own_nil _ _, fun _ => rfl, Below.refl _ _⟩
    case round =>
      obtain ⟨i, q1, d1, q2, d2, hi, rfl, rfl, rfl, htp⟩ := hrel
      have HTP := Lib.hid htp
      have hbw := htp.2.2.2
      have SZ := Lib.hid (HSZ.out.below hbw)
      clear htp hbw
      by_cases hlt : i < 64
      · by_cases hin : i < m
        · obtain ⟨p1, e1, w1, p2, e2, w2, r1, r2, tp⟩ := HNX.out _ _ _ _ _ _ _ HTP.out hlt (nth S i) (by rw [HFN.out, if_pos (by rw [← HM.out]; exact hin)])
          have R1 := Lib.hid r1
          have R2 := Lib.hid r2
          have TP := Lib.hid tp
          have hcell : ∃ b' o', x0 = some ⟨b', o', none⟩ ∧ wr.cell? ⟨b', o' + i, none⟩ = some (.int .u8 (nth S i)) := by
            obtain ⟨_, ⟨_, h⟩ | ⟨_, _, _, h, _⟩ | ⟨b', o', cap, h, _, _, _, hc⟩⟩ := SZ.out
            · rw [h] at HM; have := HM.out; simp at this; omega
            · rw [h] at HM; have := HM.out; simp at this; omega
            · simp only [Value.slice.injEq] at h
              exact ⟨b', o', h.1, hc i (by rw [← HM.out]; exact hin)⟩
          obtain ⟨b', o', rfl, hc⟩ := hcell
          have hbd := HSB.out.nth i
          obtain ⟨y0, y1⟩ := hbd
          clear r1 r2 tp
          generalize nth S i = y at *
          go_wp2_with (first
            | (at_builtin; refine wpList_app rfl (.tmp 26) (.tmp 29) rfl rfl rfl rfl R1.out ?_)
            | (at_builtin; refine wpList_app rfl (.tmp 31) (.tmp 34) rfl rfl rfl rfl R2.out ?_))
          go_roundw
          case rel => exact ⟨i + 1, p1, e1, p2, e2, by omega, by go_num, rfl, rfl, TP.out⟩
          case measure => simp [intOf]; omega
        · obtain ⟨p1, e1, w1, p2, e2, w2, r1, r2, tp⟩ := HNX.out _ _ _ _ _ _ _ HTP.out hlt 0 (by rw [HFN.out, if_neg (by rw [← HM.out]; exact hin)])
          have R1 := Lib.hid r1
          have R2 := Lib.hid r2
          have TP := Lib.hid tp
          clear r1 r2 tp
          have x54 : bits .xor .u8 0 54 = 54 := by kernel_rfl
          have x92 : bits .xor .u8 0 92 = 92 := by kernel_rfl
          rw [x54] at R1
          rw [x92] at R2
          go_wp2_with (first
            | (at_builtin; refine wpList_app rfl (.tmp 26) (.tmp 29) rfl rfl rfl rfl R1.out ?_)
            | (at_builtin; refine wpList_app rfl (.tmp 31) (.tmp 34) rfl rfl rfl rfl R2.out ?_))
          go_roundw
          case rel => exact ⟨i + 1, p1, e1, p2, e2, by omega, by go_num, rfl, rfl, TP.out⟩
          case measure => simp [intOf]; omega
      · obtain rfl : i = 64 := by omega
        obtain ⟨o1, o2, _, hbw⟩ := HTP.out
        have hbz := HBZ.out.trans (hbw.mono HBZ.out.size)
        obtain ⟨p1, e1, w1, r1, oo1, g1, b1⟩ := app o1 (HB.out.below hbz) (by rw [L54.out]; omega) hbw.size
        rw [L54.out] at r1 oo1
        have hbz1 : Below wz.heap.size wz w1 := hbw.trans b1
        have oo2 : Own w1 wz.heap.size (.slice q2 64 d2) (padk L 92 64) := o2.grown g1 (.inr (fun e => own_apart o1 o2 (by rw [L54.out]; omega) (by rw [L92.out]; omega) HNE.out e.symm))
        have R1 := Lib.hid r1
        have O1 := Lib.hid oo1
        have O2 := Lib.hid oo2
        have BZ1 := Lib.hid hbz1
        have BL := Lib.hid LB.out
        clear o1 o2 hbw hbz r1 oo1 g1 b1 hbz1 oo2 HTP SZ
        go_wp2_with (at_builtin; refine wpList_app rfl (.tmp 37) (.tmp 38) rfl rfl rfl rfl R1.out ?_)
        refine (sumD _ _ (by rw [List.length_append, L54.out]; omega) _ O1.out.sees).mono ?_
        rintro e w2 ⟨x2, c2, rfl, ho2, hb2⟩
        have hl2 := SH.out _ O1.out.1
        obtain ⟨p3, e3, w3, r3, oo3, g3, b3⟩ := app (O2.out.below hb2) ho2.sees (by rw [L92.out, hl2]; omega) (by have := BZ1.out.size; have := hb2.size; omega)
        rw [L92.out, hl2] at r3
        rw [L92.out] at oo3
        rw [hl2] at ⊢ oo3
        have R3 := Lib.hid r3
        have O3 := Lib.hid oo3
        have BZ3 : Hid (Below wz.heap.size wz w3) := (BZ1.out.trans (hb2.mono BZ1.out.size)).trans b3
        clear ho2 hb2 r3 oo3 g3 b3
        go_wp2_with (at_builtin; refine wpList_app rfl (.tmp 36) (.tmp 40) rfl rfl rfl rfl R3.out ?_)
        refine (sumD _ _ (by rw [List.length_append, L92.out, hl2]; omega) _ O3.out.sees).mono ?_
        rintro e w4 ⟨x4, c4, rfl, ho4, hb4⟩
        rw [← HMAC.out] at ho4 ⊢
        have O4 := Lib.hid ho4
        have B4 : Hid (Below w.heap.size w w4) := HBZ.out.trans ((BZ3.out.trans (hb4.mono BZ3.out.size)).mono HBZ.out.size)
        have BZ4 : Hid (w.heap.size ≤ w3.heap.size) := Nat.le_trans HBZ.out.size BZ3.out.size
        clear ho4 hb4
        go_wp2_with fail
        go_ret
        rw [HWZ.out]
        exact ⟨_, _, rfl, O4.out.lower BZ4.out, B4.out⟩
set_option maxRecDepth 100000 in
set_option maxHeartbeats 1000000 in
theorem extract (vk vb : Value) (k b : List Int) (w : World) (hk : Sees w vk k) (hb : Sees w vb b) (lk : k.length ≤ 562949953421312) (lb : b.length ≤ 562949953421312) (hG : Glob w) :
    Calls Tryd.prog 23 #[vk, vb] w fun e w' => e = .returned (.agg (bcells (mac k b))) ∧ Below w.heap.size w w' := by
  obtain ⟨x1, c1, rfl, _⟩ := id hk.form
  obtain ⟨x2, c2, rfl, _⟩ := id hb.form
  have z48 : ∀ w, (zeroValue 48).run Tryd.prog w = .ok (.agg (bcells (List.replicate 32 0))) w := fun _ => by kernel_rfl
  obtain ⟨Z48, hZ48⟩ : ∃ Z, Z = bcells (List.replicate 32 0) := ⟨_, rfl⟩
  rw [← hZ48] at z48
  have h2 : 2 ≤ w.heap.size := by have := hG.lt; omega
  have hB0 : Below w.heap.size w (w.alloc (.cells Z48 48)) := (Below.refl _ _).alloc (Nat.le_refl _) _
  have hB1 : Below w.heap.size w ((w.alloc (.cells Z48 48)).alloc (.cells #[.slice x2 b.length c2] 22)) := hB0.alloc hB0.size _
  have lM : (mac k b).length = 32 := mac_len k b hk.1
  have MK := Lib.hid (mark _ k (w.heap.size + 1) 1 [.slice x2 b.length c2] [b] ((w.alloc (.cells Z48 48)).alloc (.cells #[.slice x2 b.length c2] 22)) (hk.below hB1) lk (by
    have := lit1 (w.alloc (.cells Z48 48)) _ b (hb.below hB0)
    simpa using this) (by simp) (by simpa using lb) (hG.below hB1 h2))
  rw [show [b].flatten = b by simp] at MK
  have IM := Lib.hid (i48' _ lM)
  have ZM := Lib.hid (show Z48.size = (bcells (mac k b)).size by rw [hZ48, bsize, bsize, lM, List.length_replicate])
  have OM := Lib.hid (bone (mac k b))
  have HB1 := Lib.hid hB1
  have K1 := Lib.hid (show ((w.alloc (.cells Z48 48)).alloc (.cells #[.slice x2 b.length c2] 22)).heap[w.heap.size]? = some (.cells Z48 48 (0, 0)) by rw [Below.heap_alloc _ _ _ (by simp)]; exact heap_alloc_new w _)
  clear hZ48 h2 hB0 hB1 lM hk hb hG
  go_enter Tryd.func23, Tryd.ntmps23
  go_wp2_with fail
  refine MK.out.mono ?_
  rintro e w1 ⟨rfl, hb⟩
  have k2 : w1.heap[w.heap.size]? = some (.cells Z48 48 (0, 0)) := by rw [hb.block _ (blk_lt K1.out)]; exact K1.out
  have HB2 : Hid (Below w.heap.size w w1) := HB1.out.trans (hb.mono HB1.out.size)
  clear hb
  go_wp2_with (refine wpList_store_row rfl 48 _ _ rfl w.heap.size (bcells (mac k b)) rfl rfl 48 Z48 k2 IM.out ZM.out OM.out ?_)
  refine bodyPost_ret (v := .agg (bcells (mac k b))) (results_cell_row Tryd.results23 _ _ w.heap.size 48 _ (0, 0) _ rfl (setRow_heap _ _ _ _ _ _ k2) Tryd.underlying48 rfl IM.out) rfl ⟨rfl, ?_⟩
  exact HB2.out.trans (below_row _ _ (Nat.le_refl _))
end Go.Proofs.YtmkaagiabafooaaDoor
