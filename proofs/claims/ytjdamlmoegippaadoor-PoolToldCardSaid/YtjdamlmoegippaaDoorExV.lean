/-
  Contracts of package extent: Claim, Hold, Drop. Condition: the field lies in memory.
-/
import Derived.Test.YtjdamlmoegippaaDoorExN
namespace Go.Proofs.YtjdamlmoegippaaDoor.ex
open Go.RowKit
instance (N : Nat) (t r q : Int) : Decidable (mayL N t r q) := by unfold mayL; infer_instance
instance (T : Nat → Acc) (t : Int) : Decidable (isIn T t) := by unfold isIn; infer_instance
/-- How often each is held, and what each has. -/
structure St where
  f : Nat → Nat
  T : Nat → Acc
/-- The first free one. -/
def fst (f : Nat → Nat) : Nat → Nat
  | 0 => 0
  | n + 1 => if fst f n < n then fst f n else if f n = 0 then n else n + 1
theorem fst_spec (f : Nat → Nat) : ∀ N, fst f N ≤ N ∧ (∀ j, j < fst f N → f j ≠ 0) ∧ (fst f N < N → f (fst f N) = 0)
  | 0 => ⟨Nat.le_refl _, fun j hj => by simp [fst] at hj, fun h => by simp [fst] at h⟩
  | n + 1 => by
    obtain ⟨h1, h2, h3⟩ := fst_spec f n
    unfold fst
    by_cases h : fst f n < n
    · rw [if_pos h]; exact ⟨by omega, h2, fun _ => h3 h⟩
    · rw [if_neg h]
      have e : fst f n = n := by omega
      rw [e] at h2
      by_cases h0 : f n = 0
      · rw [if_pos h0]; exact ⟨by omega, h2, fun _ => h0⟩
      · rw [if_neg h0]
        refine ⟨Nat.le_refl _, fun j hj => ?_, fun h => absurd h (Nat.lt_irrefl _)⟩
        by_cases hj2 : j = n
        · rw [hj2]; exact h0
        · exact h2 j (by omega)
theorem fst_of {f : Nat → Nat} {N q : Nat} (h1 : q < N) (h2 : f q = 0) (h3 : ∀ j, j < q → f j ≠ 0) : fst f N = q := by
  obtain ⟨k1, k2, k3⟩ := fst_spec f N
  rcases Nat.lt_trichotomy (fst f N) q with h | h | h
  · exact absurd (k3 (by omega)) (h3 _ h)
  · exact h
  · exact absurd h2 (k2 q h)
theorem cnt_full {f : Nat → Nat} : ∀ N, (∀ j, j < N → f j ≠ 0) → cnt f N = N
  | 0, _ => rfl
  | n + 1, h => by
    show cnt f n + _ = _
    rw [if_neg (h n (by omega)), cnt_full n (fun j hj => h j (by omega))]
def sAdm (N : Nat) (s : St) (t r q : Int) : Int × St :=
  if mayL N t r q then (if (s.T t.toNat).i = true then (53, s) else if slack N s.T < r then (61, s) else (0, ⟨s.f, updT s.T t.toNat ⟨true, r, q, 0⟩⟩)) else (1, s)
def sGet (N : Nat) (s : St) (n : Nat) (x : Nat) : Int × St :=
  if roomC N s.T n = 0 then (0, ⟨upd s.f x (s.f x + 1), addT s.T n 1⟩) else (roomC N s.T n, s)
def sTak (N : Nat) (s : St) (t : Int) : Int × St := if isIn s.T t then sGet N s t.toNat (fst s.f N) else (51, s)
def xTak (N : Nat) (s : St) (t : Int) : Nat := if (sTak N s t).1 = 0 then fst s.f N else 0
def sDrp (N : Nat) (s : St) (t : Int) (x : Nat) : Int × St :=
  if x < N then (if isIn s.T t then (if (s.T t.toNat).c = 0 ∨ s.f x = 0 then (7, s) else (0, ⟨upd s.f x (s.f x - 1), if s.f x = 1 then addT s.T t.toNat (-1) else s.T⟩)) else (51, s)) else (1, s)
/-- A field as a state says. -/
def FS (w : World) (g rb mb wb N : Nat) (s : St) : Prop := FD w g rb mb wb N s.f s.T
def CS (w : World) (g rb mb wb N : Nat) (p : Int × St) (e : Ending) (w' : World) : Prop := e = .returned (.int .i64 p.1) ∧ FS w' g rb mb wb N p.2 ∧ Mods (Ft g mb wb) w w'
section
variable {w w' : World} {g rb mb wb N : Nat} {s : St}
theorem admS (h : FS w g rb mb wb N s) (t r q : Int) : Calls Tryd.prog 31 #[.pointer (some ⟨g, 0, none⟩), .int .i64 t, .int .i64 r, .int .i64 q] w (CS w g rb mb wb N (sAdm N s t r q)) := by
  unfold sAdm
  by_cases hm : mayL N t r q
  · obtain ⟨n, rfl⟩ : ∃ n : Nat, t = n := ⟨t.toNat, by have := hm.1; omega⟩
    rw [if_pos hm]
    have := admitF h n r q hm
    unfold admT admC at this
    rw [Int.toNat_natCast]
    by_cases hi : (s.T n).i = true
    · simp only [if_pos hi] at this ⊢; exact this
    · by_cases hs : slack N s.T < r
      · simp only [if_neg hi, if_pos hs] at this ⊢; exact this
      · simp only [if_neg hi, if_neg hs] at this ⊢; exact this
  · rw [if_neg hm]; exact admit_no h t r q hm
theorem sGet_ok (h : FS w g rb mb wb N s) (n x : Nat) (h1 : 1 ≤ n) (h8 : n ≤ 8) (hT : (s.T n).i = true) (hx : roomC N s.T n = 0 → x < N ∧ s.f x = 0) :
    Calls Tryd.prog 43 #[.pointer (some ⟨g, 0, none⟩), .pointer (some ⟨g, 1 + n * 4, none⟩), .int .i64 x] w (CS w g rb mb wb N (sGet N s n x)) := by
  unfold sGet
  by_cases hr : roomC N s.T n = 0
  · rw [if_pos hr]; exact charge_yes h n x h1 h8 hT (hx hr).1 (hx hr).2 hr
  · rw [if_neg hr]; exact charge_no h n h1 h8 x hr
def TS (w : World) (g rb mb wb N : Nat) (s : St) (t : Int) (e : Ending) (w' : World) : Prop :=
  e = .returned (.tuple #[.int .u32 (xTak N s t), .int .i64 (sTak N s t).1]) ∧ FS w' g rb mb wb N (sTak N s t).2 ∧ Mods (Ft g mb wb) w w'
theorem takS (h : FS w g rb mb wb N s) (t : Int) : Calls Tryd.prog 21 #[.pointer (some ⟨g, 0, none⟩), .int .i64 t] w (TS w g rb mb wb N s t) := by
  have H := Lib.hid h
  by_cases hm : isIn s.T t
  · obtain ⟨n, rfl⟩ : ∃ n : Nat, t = n := ⟨t.toNat, by have := hm.1; omega⟩
    have hm' := hm
    obtain ⟨h1, h8, hi⟩ := hm'
    rw [Int.toNat_natCast] at hi
    have e1 : sTak N s n = sGet N s n (fst s.f N) := by unfold sTak; rw [if_pos hm]; rfl
    have AD := Lib.hid (admF h n (by omega) (by omega) hi)
    have c0 := h.c0
    have FR := Lib.hid (freeB h.row 0)
    have GET : Hid (∀ (p : Int) (b : Bool), FreeO N s.f 0 p b → ∃ x : Nat, p = x ∧ x ≤ 2048 ∧ (roomC N s.T n = 0 → x = fst s.f N) ∧ Calls Tryd.prog 43 #[.pointer (some ⟨g, 0, none⟩), .pointer (some ⟨g, 1 + n * 4, none⟩), .int .i64 p] w (CS w g rb mb wb N (sGet N s n (fst s.f N)))) := by
      intro p b hf
      rcases hf with ⟨rfl, q, rfl, k1, k2, k3, k4⟩ | ⟨rfl, rfl, k4⟩
      · have e : fst s.f N = q := fst_of k2 k3 (fun j hj => k4 j (by omega) hj)
        rw [e]
        have := h.n2
        exact ⟨q, rfl, by omega, fun _ => rfl, sGet_ok h n q (by omega) (by omega) hi (fun _ => ⟨k2, k3⟩)⟩
      · refine ⟨0, rfl, by omega, fun hr => ?_, ?_⟩
        · obtain ⟨_, _, r3⟩ := roomC_room h n (by omega) (by omega) hr
          rw [cnt_full N (fun j hj => k4 j (by omega) hj)] at r3
          exact absurd r3 (Nat.lt_irrefl _)
        · have hr : roomC N s.T n ≠ 0 := fun hr => by
            obtain ⟨_, _, r3⟩ := roomC_room h n (by omega) (by omega) hr
            rw [cnt_full N (fun j hj => k4 j (by omega) hj)] at r3
            exact absurd r3 (Nat.lt_irrefl _)
          have := charge_no h n (by omega) (by omega) 0 hr
          unfold sGet
          rw [if_neg hr]
          exact this
    have X0 : Hid (roomC N s.T n ≠ 0 → xTak N s n = 0 ∧ sTak N s n = (roomC N s.T n, s)) := fun hr => by
      have e2 : sTak N s n = (roomC N s.T n, s) := by rw [e1]; unfold sGet; rw [if_neg hr]
      exact ⟨by unfold xTak; rw [e2, if_neg hr], e2⟩
    have X1 : Hid (roomC N s.T n = 0 → xTak N s n = fst s.f N ∧ (sTak N s n).1 = 0) := fun hr => by
      have e2 : (sTak N s n).1 = 0 := by rw [e1]; unfold sGet; rw [if_pos hr]
      exact ⟨by unfold xTak; rw [if_pos e2], e2⟩
    have RN : Hid ((sGet N s n (fst s.f N)).1 = roomC N s.T n) := by
      show _ = _
      unfold sGet
      by_cases hr : roomC N s.T n = 0
      · rw [if_pos hr, hr]
      · rw [if_neg hr]
    have E1 := Lib.hid e1
    clear h hm hi e1
    go_enter Tryd.func21, Tryd.ntmps21
    go_wp2_with (go_at_call 34; refine AD.out.mono ?_; rintro e w' ⟨rfl, rfl⟩)
    refine FR.out.mono ?_
    rintro e w' ⟨p, b, rfl, hf, rfl⟩
    obtain ⟨x, rfl, hx, ex, hcall⟩ := GET.out p b hf
    have EX := Lib.hid ex
    have CL := Lib.hid hcall
    clear hf ex hcall GET
    go_wp2_with fail
    refine CL.out.mono ?_
    rintro e w2 ⟨rfl, k2, m2⟩
    have K2 := Lib.hid k2
    have M2 := Lib.hid m2
    clear k2 m2
    rw [RN.out]
    by_cases hr : roomC N s.T n = 0
    · have Z := Lib.hid hr
      rw [hr]
      clear hr
      go_wp2_with fail
      go_ret2
      refine ⟨?_, by rw [E1.out]; exact K2.out, M2.out⟩
      rw [(X1.out Z.out).1, (X1.out Z.out).2, EX.out Z.out]
      rfl
    · have hb : (roomC N s.T n == 0) = false := by simp; exact hr
      have Z := Lib.hid hr
      clear hr
      generalize hR : roomC N s.T n = R at hb ⊢
      have HR := Lib.hid hR
      clear hR
      go_wp2_with fail
      go_ret2
      refine ⟨?_, by rw [E1.out]; exact K2.out, M2.out⟩
      rw [(X0.out Z.out).1, (X0.out Z.out).2, HR.out]
      rfl
  · have e1 : sTak N s t = (51, s) := by unfold sTak; rw [if_neg hm]
    have e2 : xTak N s t = 0 := by unfold xTak; rw [e1]; rfl
    have HP : Hid (TS w g rb mb wb N s t (.returned (.tuple #[.int .u32 0, .int .i64 51])) w) := by
      show TS _ _ _ _ _ _ _ _ _ _
      unfold TS
      rw [e1, e2]
      exact ⟨rfl, h, Mods.refl _ _⟩
    have AD := Lib.hid (admF_no h t hm)
    clear h hm e1 e2
    go_enter Tryd.func21, Tryd.ntmps21
    go_wp2_with (go_at_call 34; refine AD.out.mono ?_; rintro e w' ⟨rfl, rfl⟩)
    go_ret2
    exact HP.out
end
end Go.Proofs.YtjdamlmoegippaaDoor.ex
namespace Go.Proofs.YtjdamlmoegippaaDoor.ex
open Go.RowKit
section
variable {w w' : World} {g rb mb wb N : Nat} {s : St}
theorem u32_i64 (x : Nat) (hx : x < 4294967296) : IntKind.i64.wrap (x : Int) = x := by
  simp [IntKind.wrap, IntKind.bits, IntKind.signed]; omega
theorem inv_drop (h : FS w g rb mb wb N s) (n x : Nat) (h1 : 1 ≤ n) (h8 : n ≤ 8) (hT : (s.T n).i = true) (hx : x < N) (hc : (s.T n).c ≠ 0) (hf : s.f x = 1) : Inv N (upd s.f x 0) (addT s.T n (-1)) := by
  have hq := h.inv.rq n
  have hc0 := h.inv.cq n
  refine h.inv.set n h1 h8 _ (fun e => by rw [hT] at e; cases e) hq ⟨by show 0 ≤ (s.T n).c + -1; omega, by show (s.T n).c + -1 ≤ (s.T n).q; omega⟩ ?_ ?_
  · have := h.inv.sl
    unfold Acc.sh
    show max (s.T n).r ((s.T n).c + -1) ≤ slack N s.T + max (s.T n).r (s.T n).c
    omega
  · have := cnt_one hx (f := s.f) (by omega)
    show ((cnt (upd s.f x 0) N : Nat) : Int) = cnt s.f N - (s.T n).c + ((s.T n).c + -1)
    omega
theorem drpS (h : FS w g rb mb wb N s) (t : Int) (x : Nat) (hx : x < 4294967296) : Calls Tryd.prog 15 #[.pointer (some ⟨g, 0, none⟩), .int .i64 t, .int .u32 x] w (CS w g rb mb wb N (sDrp N s t x)) := by
  have H := Lib.hid h
  unfold sDrp
  by_cases hN : x < N
  · rw [if_pos hN]
    have HA := Lib.hid (hasF h x hN)
    have hu := u32_i64 x hx
    by_cases hm : isIn s.T t
    · rw [if_pos hm]
      obtain ⟨n, rfl⟩ : ∃ n : Nat, t = n := ⟨t.toNat, by have := hm.1; omega⟩
      obtain ⟨h1, h8, hi⟩ := hm
      rw [Int.toNat_natCast] at hi ⊢
      have hn0 : n < 9 := by omega
      have AD := Lib.hid (admF h n (by omega) (by omega) hi)
      have c3 := h.at3 n hn0
      have c0 := h.c0
      by_cases hc : (s.T n).c = 0
      · rw [if_pos (.inl hc)]
        rw [hc] at c3
        clear h hN hi h1 h8 hc
        go_enter Tryd.func15, Tryd.ntmps15
        go_wp2_with (first | (go_at_call 33; refine HA.out.mono ?_; rintro e w' ⟨rfl, rfl⟩) | (go_at_call 34; refine AD.out.mono ?_; rintro e w' ⟨rfl, rfl⟩))
        go_ret
        exact ⟨rfl, H.out, Mods.refl _ _⟩
      · have hcb : ((s.T n).c == 0) = false := by simp; exact hc
        by_cases hf : s.f x = 0
        · rw [if_pos (.inr hf)]
          have DR := Lib.hid (dropB_free h.row x hN hf)
          clear h hN hi h1 h8 hc hf
          generalize (s.T n).c = c at *
          go_enter Tryd.func15, Tryd.ntmps15
          go_wp2_with (first | (go_at_call 33; refine HA.out.mono ?_; rintro e w' ⟨rfl, rfl⟩) | (go_at_call 34; refine AD.out.mono ?_; rintro e w' ⟨rfl, rfl⟩))
          refine DR.out.mono ?_
          rintro e w' ⟨rfl, rfl⟩
          go_wp2_with fail
          go_ret
          exact ⟨rfl, H.out, Mods.refl _ _⟩
        · rw [if_neg (by rintro (e | e); · exact hc e
                         · exact hf e)]
          by_cases h1x : s.f x = 1
          · have DR : Hid (Calls Tryd.prog 35 #[.pointer (some ⟨rb, 0, none⟩), .int .i64 x] w (TurnP w rb N mb wb (upd s.f x 0) (.tuple #[.bool true, .int .i64 0]))) := dropB_one h.row x hN h1x
            rw [if_pos h1x, h1x]
            have IV := Lib.hid (inv_drop h n x (by omega) (by omega) hi hN hc h1x)
            have hc1 := (h.inv.cq n).1
            have hc2 : (s.T n).c ≤ 2048 := by have := (h.inv.cq n).2; have := (h.inv.rq n).2.2; have := h.n2; omega
            have hc3 : 1 ≤ (s.T n).c := by omega
            have HG : Hid (∀ w2, Mods (Bt mb wb) w w2 → w2.cell? ⟨g, 1 + n * 4 + 3, none⟩ = some (.int .i64 (s.T n).c) ∧ w2.frozen? ⟨g, 1 + n * 4 + 3, none⟩ = false) := by
              intro w2 m
              have e := (m.block g H.out.lt (by have := H.out.ne2; have := H.out.ne3; unfold Bt; omega)).trans H.out.blk
              refine ⟨?_, by simp [World.frozen?, e]⟩
              rw [← H.out.at3 n hn0]
              unfold World.cell?
              rw [e, H.out.blk]
            have HE : Hid (∀ w2, Mods (Bt mb wb) w w2 → BR w2 rb N mb wb (upd s.f x 0) → FS (w2.setCell ⟨g, 1 + n * 4 + 3, none⟩ (.int .i64 ((s.T n).c - 1))) g rb mb wb N ⟨upd s.f x 0, addT s.T n (-1)⟩ ∧ Mods (Ft g mb wb) w (w2.setCell ⟨g, 1 + n * 4 + 3, none⟩ (.int .i64 ((s.T n).c - 1)))) := by
              intro w2 m r
              have e := (m.block g H.out.lt (by have := H.out.ne2; have := H.out.ne3; unfold Bt; omega)).trans H.out.blk
              have hm2 : Mods (fun k => k = g) w2 (w2.setCell ⟨g, 1 + n * 4 + 3, none⟩ (.int .i64 ((s.T n).c - 1))) := Mods.set _ _ _ rfl
              refine ⟨⟨?_, r.mods hm2 (fun e => H.out.ne1 e.symm) (fun e => H.out.ne2 e.symm) (fun e => H.out.ne3 e.symm), H.out.n2, IV.out⟩, (m.mono (T := Ft g mb wb) (fun b hb => .inl (.inr hb))).trans hm2 (fun b hb => .inl (.inl hb))⟩
              rw [blk_set e, show 1 + n * 4 + 3 = (4 * n + 3) + 1 by omega, fC_set, tC_updc s.T n hn0]
              rfl
            clear h hN hi h1 h8 hc hf h1x
            generalize (s.T n).c = c at *
            go_enter Tryd.func15, Tryd.ntmps15
            go_wp2_with (first | (go_at_call 33; refine HA.out.mono ?_; rintro e w' ⟨rfl, rfl⟩) | (go_at_call 34; refine AD.out.mono ?_; rintro e w' ⟨rfl, rfl⟩))
            refine DR.out.mono ?_
            rintro e w2 ⟨rfl, r2, m2⟩
            have R2 := Lib.hid r2
            have M2 := Lib.hid m2
            have d3 := (HG.out w2 m2).1
            have f3 := (HG.out w2 m2).2
            have E2 := Lib.hid (HE.out w2 m2 r2)
            clear r2 m2 HG HE c3
            go_wp2_with fail
            go_ret
            exact ⟨rfl, E2.out.1, E2.out.2⟩
          · have DR := Lib.hid (dropB_more h.row x hN (by omega))
            rw [if_neg h1x]
            have CN : Hid (cnt (upd s.f x (s.f x - 1)) N = cnt s.f N) := cnt_more hN hf (by omega)
            clear h hN hi h1 h8 hc hf h1x
            generalize (s.T n).c = c at *
            go_enter Tryd.func15, Tryd.ntmps15
            go_wp2_with (first | (go_at_call 33; refine HA.out.mono ?_; rintro e w' ⟨rfl, rfl⟩) | (go_at_call 34; refine AD.out.mono ?_; rintro e w' ⟨rfl, rfl⟩))
            refine DR.out.mono ?_
            rintro e w2 ⟨rfl, r2, m2⟩
            have R2 := Lib.hid r2
            have M2 := Lib.hid m2
            clear r2 m2
            go_wp2_with fail
            go_ret
            exact ⟨rfl, ⟨(M2.out.block g H.out.lt (by have := H.out.ne2; have := H.out.ne3; unfold Bt; omega)).trans H.out.blk, R2.out, H.out.n2, H.out.inv.times CN.out⟩, M2.out.mono (fun b hb => .inl (.inr hb))⟩
    · rw [if_neg hm]
      have AD := Lib.hid (admF_no h t hm)
      clear h hN hm
      go_enter Tryd.func15, Tryd.ntmps15
      go_wp2_with (first | (go_at_call 33; refine HA.out.mono ?_; rintro e w' ⟨rfl, rfl⟩) | (go_at_call 34; refine AD.out.mono ?_; rintro e w' ⟨rfl, rfl⟩))
      go_ret
      exact ⟨rfl, H.out, Mods.refl _ _⟩
  · rw [if_neg hN]
    have HA := Lib.hid (hasF_no h x (by omega))
    clear h hN
    go_enter Tryd.func15, Tryd.ntmps15
    go_wp2_with (go_at_call 33; refine HA.out.mono ?_; rintro e w' ⟨rfl, rfl⟩)
    go_ret
    exact ⟨rfl, H.out, Mods.refl _ _⟩
end
end Go.Proofs.YtjdamlmoegippaaDoor.ex
