/-
  Contracts of package extent: Claim, Hold, Drop. Condition: the field lies in memory.
-/
import Derived.Test.YtjgkochbfjlinaaQ
namespace Go.Proofs.Ytjgkochbfjlinaa
open Go.RowKit
section
variable {w w' : World} {g rb mb wb N : Nat} {s : St}
theorem u32_i64 (x : Nat) (hx : x < 4294967296) : IntKind.i64.wrap (x : Int) = x := by
  simp [IntKind.wrap, IntKind.bits, IntKind.signed]; omega
/-- An extent that is held is held once more. -/
theorem moreS (h : FS w g rb mb wb N s) (x : Nat) (hx : x < N) (hf : s.f x ≠ 0) : Calls Try.prog 45 #[.pointer (some ⟨rb, 0, none⟩), .int .i64 x] w (CS w g rb mb wb N (sMore N s x)) := by
  refine (holdAny h.row x).mono ?_
  rintro e w2 ⟨rfl, r, m⟩
  refine ⟨rfl, ⟨(m.block g h.lt (by have := h.ne2; have := h.ne3; unfold Bt; omega)).trans h.blk, r, h.n2, h.inv.times ?_⟩, m.mono (fun b hb => .inl (.inr hb))⟩
  show cnt (hF N s.f x) N = _
  unfold hF
  rw [if_neg (by omega), Int.toNat_natCast]
  split
  · rfl
  · exact cnt_more hx hf (by omega)
theorem hold_nil (x : Int) (w : World) : Calls Try.prog 24 #[.pointer none, .int .u32 x] w fun e w' => e = .returned (.int .i64 6) ∧ w = w' := by
  go_enter Try.func24, Try.ntmps24
  go_wp2_with (go_at_call 44; refine (hasF_nil _ _).mono ?_; rintro e w' ⟨rfl, rfl⟩)
  go_ret
  exact ⟨rfl, rfl⟩
theorem hldS (h : FS w g rb mb wb N s) (x : Nat) (hx : x < 4294967296) : Calls Try.prog 24 #[.pointer (some ⟨g, 0, none⟩), .int .u32 x] w (CS w g rb mb wb N (sHld N s x)) := by
  have H := Lib.hid h
  unfold sHld
  by_cases hN : x < N
  · rw [if_pos hN]
    have HA := Lib.hid (hasF h x hN)
    have TI := Lib.hid (timesF h x hx)
    have hu := u32_i64 x hx
    by_cases hf : s.f x = 0
    · rw [if_pos hf]
      rw [hf] at TI
      clear h hf hN
      go_enter Try.func24, Try.ntmps24
      go_wp2_with (go_at_call 44; refine HA.out.mono ?_; rintro e w' ⟨rfl, rfl⟩)
      refine TI.out.mono ?_
      rintro e w' ⟨rfl, rfl⟩
      go_wp2_with fail
      go_ret
      exact ⟨rfl, H.out, Mods.refl _ _⟩
    · rw [if_neg hf]
      have c0 := h.c0
      have hb : ((s.f x : Int) == 0) = false := by simp; exact hf
      have MO := Lib.hid (moreS h x hN hf)
      clear h hf hN
      generalize s.f x = n at *
      go_enter Try.func24, Try.ntmps24
      go_wp2_with (go_at_call 44; refine HA.out.mono ?_; rintro e w' ⟨rfl, rfl⟩)
      refine TI.out.mono ?_
      rintro e w' ⟨rfl, rfl⟩
      go_wp2_with fail
      refine MO.out.mono ?_
      rintro e w2 ⟨rfl, k2, m2⟩
      have K2 := Lib.hid k2
      have M2 := Lib.hid m2
      clear k2 m2
      go_wp2_with fail
      go_ret
      exact ⟨rfl, K2.out, M2.out⟩
  · rw [if_neg hN]
    have HA := Lib.hid (hasF_no h x (by omega))
    clear h hN
    go_enter Try.func24, Try.ntmps24
    go_wp2_with (go_at_call 44; refine HA.out.mono ?_; rintro e w' ⟨rfl, rfl⟩)
    go_ret
    exact ⟨rfl, H.out, Mods.refl _ _⟩
theorem claim_nil (t x : Int) (w : World) : Calls Try.prog 23 #[.pointer none, .int .i64 t, .int .u32 x] w fun e w' => e = .returned (.int .i64 6) ∧ w = w' := by
  go_enter Try.func23, Try.ntmps23
  go_wp2_with (go_at_call 44; refine (hasF_nil _ _).mono ?_; rintro e w' ⟨rfl, rfl⟩)
  go_ret
  exact ⟨rfl, rfl⟩
theorem clmS (h : FS w g rb mb wb N s) (t : Int) (x : Nat) (hx : x < 4294967296) : Calls Try.prog 23 #[.pointer (some ⟨g, 0, none⟩), .int .i64 t, .int .u32 x] w (CS w g rb mb wb N (sClm N s t x)) := by
  have H := Lib.hid h
  unfold sClm
  by_cases hN : x < N
  · rw [if_pos hN]
    have HA := Lib.hid (hasF h x hN)
    have TI := Lib.hid (timesF h x hx)
    have hu := u32_i64 x hx
    by_cases hm : isIn s.T t
    · rw [if_pos hm]
      obtain ⟨n, rfl⟩ : ∃ n : Nat, t = n := ⟨t.toNat, by have := hm.1; omega⟩
      obtain ⟨h1, h8, hi⟩ := hm
      rw [Int.toNat_natCast] at hi ⊢
      have AD := Lib.hid (admF h n (by omega) (by omega) hi)
      by_cases hf : s.f x = 0
      · rw [if_pos hf]
        rw [hf] at TI
        have GE := Lib.hid (sGet_ok h n x (by omega) (by omega) hi (fun _ => ⟨hN, hf⟩))
        clear h hf hN hi h1 h8
        go_enter Try.func23, Try.ntmps23
        go_wp2_with (first | (go_at_call 44; refine HA.out.mono ?_; rintro e w' ⟨rfl, rfl⟩) | (go_at_call 39; refine AD.out.mono ?_; rintro e w' ⟨rfl, rfl⟩))
        refine TI.out.mono ?_
        rintro e w' ⟨rfl, rfl⟩
        go_wp2_with fail
        refine GE.out.mono ?_
        rintro e w2 ⟨rfl, k2, m2⟩
        have K2 := Lib.hid k2
        have M2 := Lib.hid m2
        clear k2 m2
        go_wp2_with fail
        go_ret
        exact ⟨rfl, K2.out, M2.out⟩
      · rw [if_neg hf]
        have c0 := h.c0
        have hb : 0 < (s.f x : Int) := by omega
        have MO := Lib.hid (moreS h x hN hf)
        clear h hf hN hi h1 h8
        generalize s.f x = m at *
        go_enter Try.func23, Try.ntmps23
        go_wp2_with (first | (go_at_call 44; refine HA.out.mono ?_; rintro e w' ⟨rfl, rfl⟩) | (go_at_call 39; refine AD.out.mono ?_; rintro e w' ⟨rfl, rfl⟩))
        refine TI.out.mono ?_
        rintro e w' ⟨rfl, rfl⟩
        go_wp2_with fail
        refine MO.out.mono ?_
        rintro e w2 ⟨rfl, k2, m2⟩
        have K2 := Lib.hid k2
        have M2 := Lib.hid m2
        clear k2 m2
        go_wp2_with fail
        go_ret
        exact ⟨rfl, K2.out, M2.out⟩
    · rw [if_neg hm]
      have AD := Lib.hid (admF_no h t hm)
      clear h hN hm
      go_enter Try.func23, Try.ntmps23
      go_wp2_with (first | (go_at_call 44; refine HA.out.mono ?_; rintro e w' ⟨rfl, rfl⟩) | (go_at_call 39; refine AD.out.mono ?_; rintro e w' ⟨rfl, rfl⟩))
      go_ret
      exact ⟨rfl, H.out, Mods.refl _ _⟩
  · rw [if_neg hN]
    have HA := Lib.hid (hasF_no h x (by omega))
    clear h hN
    go_enter Try.func23, Try.ntmps23
    go_wp2_with (go_at_call 44; refine HA.out.mono ?_; rintro e w' ⟨rfl, rfl⟩)
    go_ret
    exact ⟨rfl, H.out, Mods.refl _ _⟩
theorem drop_nil (t x : Int) (w : World) : Calls Try.prog 25 #[.pointer none, .int .i64 t, .int .u32 x] w fun e w' => e = .returned (.int .i64 6) ∧ w = w' := by
  go_enter Try.func25, Try.ntmps25
  go_wp2_with (go_at_call 44; refine (hasF_nil _ _).mono ?_; rintro e w' ⟨rfl, rfl⟩)
  go_ret
  exact ⟨rfl, rfl⟩
theorem inv_drop (h : FS w g rb mb wb N s) (n x : Nat) (h1 : 1 ≤ n) (h8 : n ≤ 8) (hT : (s.T n).i = true) (hx : x < N) (hc : (s.T n).c ≠ 0) (hf : s.f x = 1) : Inv N (upd s.f x 0) (addT s.T n (-1)) := by
  have hq := h.inv.rq n
  have hc0 := h.inv.cq n
  refine h.inv.set n h1 h8 _ (fun e => by rw [hT] at e; cases e) hq ⟨by show 0 ≤ (s.T n).c + -1; omega, by show (s.T n).c + -1 ≤ (s.T n).q; omega⟩ ?_ ?_
  · have := h.inv.sl
    unfold Acc.sh
    show max (s.T n).r ((s.T n).c + -1) ≤ slack N s.T + max (s.T n).r (s.T n).c
    omega
  · have := cnt_one hx (f := s.f) (by omega)
    show ((cnt (upd s.f x 0) N : Nat) : Int) = cnt s.f N - (s.T n).c + ((s.T n).c + -1)
    omega
theorem drpS (h : FS w g rb mb wb N s) (t : Int) (x : Nat) (hx : x < 4294967296) : Calls Try.prog 25 #[.pointer (some ⟨g, 0, none⟩), .int .i64 t, .int .u32 x] w (CS w g rb mb wb N (sDrp N s t x)) := by
  have H := Lib.hid h
  unfold sDrp
  by_cases hN : x < N
  · rw [if_pos hN]
    have HA := Lib.hid (hasF h x hN)
    have hu := u32_i64 x hx
    by_cases hm : isIn s.T t
    · rw [if_pos hm]
      obtain ⟨n, rfl⟩ : ∃ n : Nat, t = n := ⟨t.toNat, by have := hm.1; omega⟩
      obtain ⟨h1, h8, hi⟩ := hm
      rw [Int.toNat_natCast] at hi ⊢
      have hn0 : n < 9 := by omega
      have AD := Lib.hid (admF h n (by omega) (by omega) hi)
      have c3 := h.at3 n hn0
      have c0 := h.c0
      by_cases hc : (s.T n).c = 0
      · rw [if_pos (.inl hc)]
        rw [hc] at c3
        clear h hN hi h1 h8 hc
        go_enter Try.func25, Try.ntmps25
        go_wp2_with (first | (go_at_call 44; refine HA.out.mono ?_; rintro e w' ⟨rfl, rfl⟩) | (go_at_call 39; refine AD.out.mono ?_; rintro e w' ⟨rfl, rfl⟩))
        go_ret
        exact ⟨rfl, H.out, Mods.refl _ _⟩
      · have hcb : ((s.T n).c == 0) = false := by simp; exact hc
        by_cases hf : s.f x = 0
        · rw [if_pos (.inr hf)]
          have DR := Lib.hid (dropB_free h.row x hN hf)
          clear h hN hi h1 h8 hc hf
          generalize (s.T n).c = c at *
          go_enter Try.func25, Try.ntmps25
          go_wp2_with (first | (go_at_call 44; refine HA.out.mono ?_; rintro e w' ⟨rfl, rfl⟩) | (go_at_call 39; refine AD.out.mono ?_; rintro e w' ⟨rfl, rfl⟩))
          refine DR.out.mono ?_
          rintro e w' ⟨rfl, rfl⟩
          go_wp2_with fail
          go_ret
          exact ⟨rfl, H.out, Mods.refl _ _⟩
        · rw [if_neg (by rintro (e | e); · exact hc e
                         · exact hf e)]
          by_cases h1x : s.f x = 1
          · have DR : Hid (Calls Try.prog 46 #[.pointer (some ⟨rb, 0, none⟩), .int .i64 x] w (TurnP w rb N mb wb (upd s.f x 0) (.tuple #[.bool true, .int .i64 0]))) := dropB_one h.row x hN h1x
            rw [if_pos h1x, h1x]
            have IV := Lib.hid (inv_drop h n x (by omega) (by omega) hi hN hc h1x)
            have hc1 := (h.inv.cq n).1
            have hc2 : (s.T n).c ≤ 2048 := by have := (h.inv.cq n).2; have := (h.inv.rq n).2.2; have := h.n2; omega
            have hc3 : 1 ≤ (s.T n).c := by omega
            have HG : Hid (∀ w2, Mods (Bt mb wb) w w2 → w2.cell? ⟨g, 1 + n * 4 + 3, none⟩ = some (.int .i64 (s.T n).c) ∧ w2.frozen? ⟨g, 1 + n * 4 + 3, none⟩ = false) := by
              intro w2 m
              have e := (m.block g H.out.lt (by have := H.out.ne2; have := H.out.ne3; unfold Bt; omega)).trans H.out.blk
              refine ⟨?_, by simp [World.frozen?, e]⟩
              rw [← H.out.at3 n hn0]
              unfold World.cell?
              rw [e, H.out.blk]
            have HE : Hid (∀ w2, Mods (Bt mb wb) w w2 → BR w2 rb N mb wb (upd s.f x 0) → FS (w2.setCell ⟨g, 1 + n * 4 + 3, none⟩ (.int .i64 ((s.T n).c - 1))) g rb mb wb N ⟨upd s.f x 0, addT s.T n (-1)⟩ ∧ Mods (Ft g mb wb) w (w2.setCell ⟨g, 1 + n * 4 + 3, none⟩ (.int .i64 ((s.T n).c - 1)))) := by
              intro w2 m r
              have e := (m.block g H.out.lt (by have := H.out.ne2; have := H.out.ne3; unfold Bt; omega)).trans H.out.blk
              have hm2 : Mods (fun k => k = g) w2 (w2.setCell ⟨g, 1 + n * 4 + 3, none⟩ (.int .i64 ((s.T n).c - 1))) := Mods.set _ _ _ rfl
              refine ⟨⟨?_, r.mods hm2 (fun e => H.out.ne1 e.symm) (fun e => H.out.ne2 e.symm) (fun e => H.out.ne3 e.symm), H.out.n2, IV.out⟩, (m.mono (T := Ft g mb wb) (fun b hb => .inl (.inr hb))).trans hm2 (fun b hb => .inl (.inl hb))⟩
              rw [blk_set e, show 1 + n * 4 + 3 = (4 * n + 3) + 1 by omega, fC_set, tC_updc s.T n hn0]
              rfl
            clear h hN hi h1 h8 hc hf h1x
            generalize (s.T n).c = c at *
            go_enter Try.func25, Try.ntmps25
            go_wp2_with (first | (go_at_call 44; refine HA.out.mono ?_; rintro e w' ⟨rfl, rfl⟩) | (go_at_call 39; refine AD.out.mono ?_; rintro e w' ⟨rfl, rfl⟩))
            refine DR.out.mono ?_
            rintro e w2 ⟨rfl, r2, m2⟩
            have R2 := Lib.hid r2
            have M2 := Lib.hid m2
            have d3 := (HG.out w2 m2).1
            have f3 := (HG.out w2 m2).2
            have E2 := Lib.hid (HE.out w2 m2 r2)
            clear r2 m2 HG HE c3
            go_wp2_with fail
            go_ret
            exact ⟨rfl, E2.out.1, E2.out.2⟩
          · have DR := Lib.hid (dropB_more h.row x hN (by omega))
            rw [if_neg h1x]
            have CN : Hid (cnt (upd s.f x (s.f x - 1)) N = cnt s.f N) := cnt_more hN hf (by omega)
            clear h hN hi h1 h8 hc hf h1x
            generalize (s.T n).c = c at *
            go_enter Try.func25, Try.ntmps25
            go_wp2_with (first | (go_at_call 44; refine HA.out.mono ?_; rintro e w' ⟨rfl, rfl⟩) | (go_at_call 39; refine AD.out.mono ?_; rintro e w' ⟨rfl, rfl⟩))
            refine DR.out.mono ?_
            rintro e w2 ⟨rfl, r2, m2⟩
            have R2 := Lib.hid r2
            have M2 := Lib.hid m2
            clear r2 m2
            go_wp2_with fail
            go_ret
            exact ⟨rfl, ⟨(M2.out.block g H.out.lt (by have := H.out.ne2; have := H.out.ne3; unfold Bt; omega)).trans H.out.blk, R2.out, H.out.n2, H.out.inv.times CN.out⟩, M2.out.mono (fun b hb => .inl (.inr hb))⟩
    · rw [if_neg hm]
      have AD := Lib.hid (admF_no h t hm)
      clear h hN hm
      go_enter Try.func25, Try.ntmps25
      go_wp2_with (first | (go_at_call 44; refine HA.out.mono ?_; rintro e w' ⟨rfl, rfl⟩) | (go_at_call 39; refine AD.out.mono ?_; rintro e w' ⟨rfl, rfl⟩))
      go_ret
      exact ⟨rfl, H.out, Mods.refl _ _⟩
  · rw [if_neg hN]
    have HA := Lib.hid (hasF_no h x (by omega))
    clear h hN
    go_enter Try.func25, Try.ntmps25
    go_wp2_with (go_at_call 44; refine HA.out.mono ?_; rintro e w' ⟨rfl, rfl⟩)
    go_ret
    exact ⟨rfl, H.out, Mods.refl _ _⟩
end
end Go.Proofs.Ytjgkochbfjlinaa
