/-
  Contracts of the document's field: Drop, Take, Resize. Condition: it lies in memory, and no extent is held a hundred thousand times.
-/
import Derived.Test.YtjgkochbfjlinaaRB
import Derived.Deep.RegionHeld3
namespace Go.Proofs.Ytjgkochbfjlinaa
open Go.RowKit
section
variable {w w' : World} {q lb N : Nat} {s : St}
theorem drpR (h : RF w q lb N s) (t : Int) (x : Nat) (hx : x < 4294967296) : Calls Try.prog 35 #[.pointer (some ⟨q, 0, none⟩), .int .i64 t, .int .u32 x] w (CR w q lb N (sDrp N s t x)) := by
  have H := Lib.hid h
  have TH := Lib.hid (thereR h x hx)
  have IN := Lib.hid (inR h t)
  have c0 := h.c0
  unfold sDrp
  by_cases hN : x < N
  · rw [if_pos hN]
    rw [decide_eq_true hN] at TH
    obtain ⟨cl, fl⟩ := h.at x hN
    have hxN : (x : Int) < N := by omega
    by_cases hm : isIn s.T t
    · rw [if_pos hm]
      rw [decide_eq_true hm] at IN
      obtain ⟨n, rfl⟩ : ∃ n : Nat, t = n := ⟨t.toNat, by have := hm.1; omega⟩
      rw [Int.toNat_natCast]
      obtain ⟨h1, h8, hi⟩ := hm
      rw [Int.toNat_natCast] at hi
      have hn0 : n < 9 := by omega
      have h9 : (n : Int) < 9 := by omega
      obtain ⟨k0, k1, k2, k3⟩ := h.a4 n hn0
      have hbx := h.fb x
      have N1 := Lib.hid (And.intro h.n1 h.n2)
      by_cases hf : s.f x = 0
      · rw [if_pos (.inr hf)]
        rw [hf] at cl
        clear h hN hf h1 h8 hi hbx
        go_enter Try.func35, Try.ntmps35
        go_wp2_with (first | (go_at_call 49; refine TH.out.mono ?_; rintro e w' ⟨rfl, rfl⟩) | (go_at_call 16; refine IN.out.mono ?_; rintro e w' ⟨rfl, rfl⟩))
        go_ret
        exact CR.same H.out
      · by_cases hc : (s.T n).c = 0
        · rw [if_pos (.inl hc)]
          have hz : ((s.f x : Int) == 0) = false := by simp; exact hf
          rw [hc] at k3
          clear h hN hf h1 h8 hi hbx hc
          generalize s.f x = m at *
          go_enter Try.func35, Try.ntmps35
          go_wp2_with (first | (go_at_call 49; refine TH.out.mono ?_; rintro e w' ⟨rfl, rfl⟩) | (go_at_call 16; refine IN.out.mono ?_; rintro e w' ⟨rfl, rfl⟩))
          go_ret
          exact CR.same H.out
        · rw [if_neg (by rintro (e | e); · exact hc e
                         · exact hf e)]
          have hcb : ((s.T n).c == 0) = false := by simp; exact hc
          have hz : ((s.f x : Int) == 0) = false := by simp; exact hf
          have hcq := h.inv.cq n
          have hrq := h.inv.rq n
          have hN2 := h.n2
          have hw : IntKind.i64.wrap ((s.f x : Int) - 1) = ((s.f x - 1 : Nat) : Int) := by
            have e : ((s.f x - 1 : Nat) : Int) = (s.f x : Int) - 1 := by omega
            rw [e]; exact IntWalk.i64_in _ (by omega)
          have hwc : IntKind.i64.wrap ((s.T n).c - 1) = (s.T n).c + -1 := by
            have e : (s.T n).c + -1 = (s.T n).c - 1 := by omega
            rw [e]; exact IntWalk.i64_in _ (by omega)
          have FB : Hid (∀ i, upd s.f x (s.f x - 1) i ≤ 100000) := upd_fb h.fb (by omega)
          have FA : Hid (∀ w1 f T, RW w1 q lb N f T → _) := fun w1 f T k => RW.facts k n x hn0 hN
          have SLs : Hid (∀ w1, RW w1 q lb N s.f s.T → _) := fun w1 k => RW.setL k x (s.f x - 1)
          have SCs : Hid (∀ w1, RW w1 q lb N (upd s.f x (s.f x - 1)) s.T → RW (w1.setCell ⟨q, 1 + n * 4 + 3, none⟩ (.int .i64 ((s.T n).c + -1))) q lb N (upd s.f x (s.f x - 1)) (addT s.T n (-1)) ∧ Mods (Rt q lb) w1 (w1.setCell ⟨q, 1 + n * 4 + 3, none⟩ (.int .i64 ((s.T n).c + -1)))) := fun w1 k => RW.setC k n hn0 _
          have UX : Hid (upd s.f x (s.f x - 1) x = s.f x - 1) := if_pos rfl
          have R1 : Hid (RW w.drew q lb N s.f s.T) := h.raw.heap rfl
          have M1 : Hid (Mods (Rt q lb) w w.drew) := Mods.alike (Mods.refl _ _) rfl rfl rfl rfl
          obtain ⟨u0, u1, u2, u3, u4⟩ := FA.out _ _ _ R1.out
          have IV1 : Hid (s.f x = 1 → Inv N (upd s.f x (s.f x - 1)) (addT s.T n (-1))) := fun e => by rw [e]; exact inv_dropI h.inv n x (by omega) (by omega) hi hN hc e
          have IV2 : Hid (s.f x ≠ 1 → Inv N (upd s.f x (s.f x - 1)) s.T) := fun e => h.inv.times (cnt_more hN hf (by omega))
          have Z1 : Hid (s.f x = 1 → s.f x - 1 = 0) := fun e => by rw [e]
          have Z2 : Hid (s.f x ≠ 1 → (((s.f x - 1 : Nat) : Int) == 0) = false) := fun e => by simp; omega
          have QM : Hid (s.f x = 1 ∨ s.f x ≠ 1) := Decidable.em _
          clear h hN hf h1 h8 hi hbx hc hcq hrq hN2
          generalize hfp : upd s.f x (s.f x - 1) = fp at *
          clear hfp
          generalize hz1 : s.f x - 1 = z1 at *
          clear hz1
          by_cases hf1 : s.f x = 1
          · rw [if_pos hf1]
            have IV := Lib.hid (IV1.out hf1)
            have z10 := Z1.out hf1
            subst z10
            clear hf1 IV1 IV2 Z1 Z2 QM
            generalize s.f x = m at *
            go_enter Try.func35, Try.ntmps35
            go_wp2_with (first | (go_at_call 49; refine TH.out.mono ?_; rintro e w' ⟨rfl, rfl⟩) | (go_at_call 16; refine IN.out.mono ?_; rintro e w' ⟨rfl, rfl⟩))
            go_still_tail 14, (by kernel_rfl)
            change wpList _ _ _ _ _ w.drew
            have SL : Hid (RW (w.drew.setCell ⟨lb, x, none⟩ (.int .i64 0)) q lb N fp s.T ∧ Mods (Rt q lb) w.drew (w.drew.setCell ⟨lb, x, none⟩ (.int .i64 0))) := SLs.out _ R1.out
            clear c0 cl fl k0 k1 k2 k3
            generalize w.drew = w2 at *
            have R2 := Lib.hid SL.out.1
            have M2 := Lib.hid (M1.out.trans SL.out.2 (fun _ h => .inl h))
            obtain ⟨y0, y1, y2, y3, y4⟩ := FA.out _ _ _ R2.out
            rw [UX.out] at y2
            have y2' : (w2.setCell ⟨lb, x, none⟩ (.int .i64 0)).cell? ⟨lb, x, none⟩ = some (.int .i64 0) := y2
            clear y2
            go_wp2_with fail
            clear u0 u1 u2 u3 u4 SL
            generalize w2.setCell ⟨lb, x, none⟩ (.int .i64 0) = w3 at *
            have R3 : Hid (RW w3.drew q lb N fp s.T) := R2.out.heap rfl
            have M3 : Hid (Mods (Rt q lb) w w3.drew) := Mods.alike M2.out rfl rfl rfl rfl
            obtain ⟨v0, v1, v2, v3, v4⟩ := FA.out _ _ _ R3.out
            have SC := Lib.hid (SCs.out _ R3.out)
            go_still_tail 14, (by kernel_rfl)
            change wpList _ _ _ _ _ w3.drew
            generalize w3.drew = w4 at *
            go_wp2_with fail
            go_ret
            exact ⟨rfl, SC.out.1.full N1.out.1 N1.out.2 IV.out FB.out, M3.out.trans SC.out.2 (fun _ h => .inl h)⟩
          · rw [if_neg hf1]
            have IV := Lib.hid (IV2.out hf1)
            have z1b := Z2.out hf1
            clear hf1 IV1 IV2 Z1 Z2 QM
            generalize s.f x = m at *
            generalize (s.T n).c = c at *
            go_enter Try.func35, Try.ntmps35
            go_wp2_with (first | (go_at_call 49; refine TH.out.mono ?_; rintro e w' ⟨rfl, rfl⟩) | (go_at_call 16; refine IN.out.mono ?_; rintro e w' ⟨rfl, rfl⟩))
            go_still_tail 14, (by kernel_rfl)
            change wpList _ _ _ _ _ w.drew
            have SL := Lib.hid (SLs.out _ R1.out)
            clear c0 cl fl k0 k1 k2 k3
            generalize w.drew = w2 at *
            have R2 := Lib.hid SL.out.1
            have M2 := Lib.hid (M1.out.trans SL.out.2 (fun _ h => .inl h))
            obtain ⟨y0, y1, y2, y3, y4⟩ := FA.out _ _ _ R2.out
            rw [UX.out] at y2
            go_wp2_with fail
            go_ret
            exact ⟨rfl, R2.out.full N1.out.1 N1.out.2 IV.out FB.out, M2.out⟩
    · rw [if_neg hm]
      rw [decide_eq_false hm] at IN
      clear h hN hm
      go_enter Try.func35, Try.ntmps35
      go_wp2_with (first | (go_at_call 49; refine TH.out.mono ?_; rintro e w' ⟨rfl, rfl⟩) | (go_at_call 16; refine IN.out.mono ?_; rintro e w' ⟨rfl, rfl⟩))
      go_ret
      exact CR.same H.out
  · rw [if_neg hN]
    rw [decide_eq_false hN] at TH
    clear h hN
    go_enter Try.func35, Try.ntmps35
    go_wp2_with (go_at_call 49; refine TH.out.mono ?_; rintro e w' ⟨rfl, rfl⟩)
    go_ret
    exact CR.same H.out
def TR (w : World) (q lb N : Nat) (s : St) (t : Int) (e : Ending) (w' : World) : Prop :=
  e = .returned (.tuple #[.int .u32 (xTak N s t), .int .i64 (sTak N s t).1]) ∧ RF w' q lb N (sTak N s t).2 ∧ Mods (Rt q lb) w w'
set_option maxRecDepth 100000 in
set_option maxHeartbeats 4000000 in
theorem takR (h : RF w q lb N s) (t : Int) : Calls Try.prog 32 #[.pointer (some ⟨q, 0, none⟩), .int .i64 t] w (TR w q lb N s t) := by
  have H := Lib.hid h
  have IN := Lib.hid (inR h t)
  have N1 := Lib.hid (And.intro h.n1 h.n2)
  by_cases hm : isIn s.T t
  · rw [decide_eq_true hm] at IN
    obtain ⟨n, rfl⟩ : ∃ n : Nat, t = n := ⟨t.toNat, by have := hm.1; omega⟩
    have hm' := hm
    obtain ⟨h1, h8, hi⟩ := hm'
    rw [Int.toNat_natCast] at hi
    have hn0 : n < 9 := by omega
    have h9 : (n : Int) < 9 := by omega
    have RO := Lib.hid (roomR h n (by omega) (by omega))
    have e1 : sTak N s n = sGet N s n (fst s.f N) := by unfold sTak; rw [if_pos hm]; rfl
    by_cases hr : roomC N s.T n = 0
    · have e2 : sTak N s n = (0, ⟨upd s.f (fst s.f N) (s.f (fst s.f N) + 1), addT s.T n 1⟩) := by rw [e1]; unfold sGet; rw [if_pos hr]
      have e3 : xTak N s n = fst s.f N := by unfold xTak; rw [e2]; rfl
      obtain ⟨_, _, r3⟩ := roomC_roomI h.inv n (by omega) (by omega) hr
      obtain ⟨p1, p2, p3⟩ := fst_spec s.f N
      have p4 : fst s.f N < N := by
        rcases Nat.lt_or_ge (fst s.f N) N with k | k
        · exact k
        · rw [cnt_full N (fun j hj => p2 j (by omega))] at r3; exact absurd r3 (Nat.lt_irrefl _)
      have p5 := p3 p4
      have HP : Hid (∀ w', RF w' q lb N ⟨upd s.f (fst s.f N) (s.f (fst s.f N) + 1), addT s.T n 1⟩ → Mods (Rt q lb) w w' → TR w q lb N s n (.returned (.tuple #[.int .u32 (fst s.f N : Nat), .int .i64 0])) w') := fun w' k m => by
        show TR _ _ _ _ _ _ _ _
        unfold TR
        rw [e3, e2]
        exact ⟨rfl, k, m⟩
      have IV : Hid (Inv N (upd s.f (fst s.f N) (s.f (fst s.f N) + 1)) (addT s.T n 1)) := inv_addI h.inv n _ (by omega) (by omega) p4 p5 hi hr
      have FB : Hid (∀ i, upd s.f (fst s.f N) (s.f (fst s.f N) + 1) i ≤ 100000) := upd_fb h.fb (by omega)
      rw [hr] at RO
      rw [p5] at HP IV FB
      have hcq := h.inv.cq n
      have hrq := h.inv.rq n
      have hN2 := h.n2
      have hw : IntKind.i64.wrap ((s.T n).c + 1) = (s.T n).c + 1 := IntWalk.i64_in _ (by omega)
      have FA : Hid (∀ w1 f T, RW w1 q lb N f T → ∀ x, x < N → _) := fun w1 f T k x hx => RW.facts k n x hn0 hx
      have FN : Hid (∀ j, j < fst s.f N → s.f j ≠ 0) := p2
      have SCs : Hid (∀ w1 f, RW w1 q lb N f s.T → RW (w1.setCell ⟨q, 1 + n * 4 + 3, none⟩ (.int .i64 ((s.T n).c + 1))) q lb N f (addT s.T n 1) ∧ Mods (Rt q lb) w1 (w1.setCell ⟨q, 1 + n * 4 + 3, none⟩ (.int .i64 ((s.T n).c + 1)))) := fun w1 f k => k.setC n hn0 _
      clear h hm h1 h8 hi e1 e2 e3 hr r3 p1 p2 p3 hcq hrq hN2
      generalize fst s.f N = z at *
      have Z4 := Lib.hid p4
      have Z5 := Lib.hid p5
      clear p4 p5
      go_enter Try.func32, Try.ntmps32
      go_wp2_with (go_at_call 16; refine IN.out.mono ?_; rintro e w' ⟨rfl, rfl⟩)
      refine RO.out.mono ?_
      rintro e w2 ⟨rfl, hb2⟩
      have H2 := Lib.hid (H.out.below hb2)
      have M2 : Hid (Mods (Rt q lb) w w2) := Mods.of_below hb2
      have c0 := H2.out.c0
      clear hb2 H IN RO
      go_wp2_with fail
      go_loopg [7] N (fun r v7 wr => ∃ i : Nat, r + i = N ∧ v7 = .int .i64 i ∧ i ≤ z ∧ w2 = wr)
      case atStart => exact ⟨0, by omega, rfl, Nat.zero_le _, rfl⟩
      case round =>
        obtain ⟨i, hri, rfl, hiz, rfl⟩ := hrel
        have HR := Lib.hid hri
        have z4 := Z4.out
        have hn2 := N1.out.2
        have hiN : i < N := by omega
        have hiN2 : (i : Int) < N := by omega
        have cl := (H2.out.at i hiN).1
        have fl := (H2.out.at i hiN).2
        clear hri
        by_cases hi0 : i = z
        · subst hi0
          rw [Z5.out] at cl
          have SL : Hid (RW (w2.setCell ⟨lb, i, none⟩ (.int .i64 1)) q lb N (upd s.f i (0 + 1)) s.T ∧ Mods (Rt q lb) w2 (w2.setCell ⟨lb, i, none⟩ (.int .i64 1))) := H2.out.raw.setL i 1
          have R3 := Lib.hid SL.out.1
          have M3 := Lib.hid (M2.out.trans SL.out.2 (fun _ h => .inl h))
          have hu : IntKind.u32.wrap (i : Int) = i := by simp [IntKind.wrap, IntKind.bits, IntKind.signed]; omega
          clear hiz z4 hn2 SL
          go_wp2_with fail
          generalize w2.setCell ⟨lb, i, none⟩ (.int .i64 1) = w3 at R3 M3 ⊢
          have R4 : Hid (RW w3.drew q lb N (upd s.f i (0 + 1)) s.T) := R3.out.heap rfl
          have M4 : Hid (Mods (Rt q lb) w w3.drew) := Mods.alike M3.out rfl rfl rfl rfl
          obtain ⟨y0, y1, y2, y3, y4⟩ := FA.out _ _ _ R3.out i hiN
          obtain ⟨v0, v1, v2, v3, v4⟩ := FA.out _ _ _ R4.out i hiN
          have SC := Lib.hid (SCs.out _ _ R4.out)
          go_still_tail 14, (by kernel_rfl)
          change wpList _ _ _ _ _ w3.drew
          generalize w3.drew = w4 at *
          go_wp2_with fail
          go_ret2
          exact HP.out _ (SC.out.1.full N1.out.1 N1.out.2 IV.out FB.out) (M4.out.trans SC.out.2 (fun _ h => .inl h))
        · have hne := FN.out i (by omega)
          have hzb : ((s.f i : Int) == 0) = false := by simp; exact hne
          have HZ : Hid (i + 1 ≤ z) := by show _ ≤ _; omega
          clear hiz z4 hne
          generalize s.f i = m at *
          go_wp2_with fail
          go_roundg (N - (i + 1))
          case measure => have := HR.out; omega
          case rel => exact ⟨i + 1, by have := Z4.out; omega, by go_num, HZ.out, rfl⟩
    · have e2 : sTak N s n = (roomC N s.T n, s) := by rw [e1]; unfold sGet; rw [if_neg hr]
      have e3 : xTak N s n = 0 := by unfold xTak; rw [e2, if_neg hr]
      have HP : Hid (∀ w', RF w' q lb N s → Mods (Rt q lb) w w' → TR w q lb N s n (.returned (.tuple #[.int .u32 0, .int .i64 (roomC N s.T n)])) w') := fun w' k m => by
        show TR _ _ _ _ _ _ _ _
        unfold TR
        rw [e3, e2]
        exact ⟨rfl, k, m⟩
      have hrb : (roomC N s.T n == 0) = false := by simp; exact hr
      have n1 := h.n1
      have hN0 : (0 : Int) < N := by omega
      clear h hm h1 h8 hi e1 e2 e3 hr n1
      generalize roomC N s.T n = rc at *
      go_enter Try.func32, Try.ntmps32
      go_wp2_with (go_at_call 16; refine IN.out.mono ?_; rintro e w' ⟨rfl, rfl⟩)
      refine RO.out.mono ?_
      rintro e w2 ⟨rfl, hb2⟩
      have H2 := Lib.hid (H.out.below hb2)
      have M2 : Hid (Mods (Rt q lb) w w2) := Mods.of_below hb2
      have c0 := H2.out.c0
      clear hb2 H IN RO
      go_wp2_with fail
      go_loopg [7] 0 (fun r v7 wr => v7 = .int .i64 0 ∧ w2 = wr)
      case atStart => exact ⟨rfl, rfl⟩
      case round =>
        obtain ⟨rfl, rfl⟩ := hrel
        go_wp2_with fail
        go_ret2
        exact HP.out _ H2.out M2.out
  · rw [decide_eq_false hm] at IN
    have e1 : sTak N s t = (51, s) := by unfold sTak; rw [if_neg hm]
    have e2 : xTak N s t = 0 := by unfold xTak; rw [e1]; rfl
    have HP : Hid (TR w q lb N s t (.returned (.tuple #[.int .u32 0, .int .i64 51])) w) := by
      show TR _ _ _ _ _ _ _ _
      unfold TR
      rw [e1, e2]
      exact ⟨rfl, h, Mods.refl _ _⟩
    clear h hm e1 e2
    go_enter Try.func32, Try.ntmps32
    go_wp2_with (go_at_call 16; refine IN.out.mono ?_; rintro e w' ⟨rfl, rfl⟩)
    go_ret2
    exact HP.out
set_option maxRecDepth 100000 in
set_option maxHeartbeats 4000000 in
theorem resR (h : RF w q lb N s) (t r qq : Int) : Calls Try.prog 30 #[.pointer (some ⟨q, 0, none⟩), .int .i64 t, .int .i64 r, .int .i64 qq] w (CR w q lb N (sRes N s t r qq)) := by
  have H := Lib.hid h
  have WR := Lib.hid (wrongR h t r qq)
  have IN := Lib.hid (inR h t)
  unfold sRes
  by_cases hL : mayL N t r qq
  · rw [if_pos hL]
    rw [decide_eq_true hL] at WR
    obtain ⟨n, rfl⟩ : ∃ n : Nat, t = n := ⟨t.toNat, by have := hL.1; omega⟩
    by_cases hm : isIn s.T (n : Int)
    · rw [if_pos hm]
      rw [decide_eq_true hm] at IN
      obtain ⟨h1, h8, hi⟩ := hm
      rw [Int.toNat_natCast] at hi ⊢
      have hn0 : n < 9 := by omega
      have h9 : (n : Int) < 9 := by omega
      obtain ⟨k0, k1, k2, k3⟩ := h.a4 n hn0
      have ALW : Hid (∀ (a : Acc), Below w.heap.size w (w.alloc (.cells #[.bool a.i, .int .i64 a.r, .int .i64 a.q, .int .i64 a.c] 40)) ∧ A4 (w.alloc (.cells #[.bool a.i, .int .i64 a.r, .int .i64 a.q, .int .i64 a.c] 40)) w.heap.size 0 a) := fun a => by
        have e := heap_alloc_new w (.cells #[.bool a.i, .int .i64 a.r, .int .i64 a.q, .int .i64 a.c] 40)
        refine ⟨(Below.refl _ _).alloc (Nat.le_refl _) _, ?_, ?_, ?_, ?_⟩ <;> (unfold World.cell?; rw [e]; rfl)
      by_cases hq : qq < (s.T n).c
      · rw [if_pos hq]
        have AL := Lib.hid (ALW.out (s.T n)).1
        clear h hL hi h1 h8 ALW
        generalize s.T n = A at *
        obtain ⟨ai, ar, aq, ac⟩ := A
        simp only at *
        go_enter Try.func30, Try.ntmps30
        go_wp2_with (first | (go_at_call 47; refine WR.out.mono ?_; rintro e w' ⟨rfl, rfl⟩) | (go_at_call 16; refine IN.out.mono ?_; rintro e w' ⟨rfl, rfl⟩))
        go_ret
        exact ⟨rfl, H.out.below AL.out, Mods.of_below AL.out⟩
      · rw [if_neg hq]
        have IV : Hid ((¬ slack N s.T + (s.T n).sh < (Acc.sh ⟨true, r, qq, (s.T n).c⟩)) → Inv N s.f (updT s.T n ⟨true, r, qq, (s.T n).c⟩)) := fun hs => by
          have hc := h.inv.cq n
          unfold mayL at hL
          refine h.inv.set n (by omega) (by omega) _ (fun e => by cases e) ⟨hL.2.2.1, hL.2.2.2.1, hL.2.2.2.2⟩ ⟨hc.1, by show (s.T n).c ≤ qq; omega⟩ (by omega) ?_
          show (cnt s.f N : Int) = cnt s.f N - (s.T n).c + (s.T n).c
          omega
        have HS : Hid (∀ w1, RF w1 q lb N s → Calls Try.prog 13 #[.pointer (some ⟨q, 0, none⟩)] w1 fun e w' => e = .returned (.int .i64 (slack N s.T)) ∧ Below w1.heap.size w1 w') := fun w1 k => slackR k
        have SB := h.shn n
        have SL : 0 ≤ slack N s.T ∧ slack N s.T ≤ N := ⟨h.inv.sl, h.inv.slack_le⟩
        have hN := h.n2
        have SET : Hid (∀ w1, RF w1 q lb N s → (¬ slack N s.T + (s.T n).sh < (Acc.sh ⟨true, r, qq, (s.T n).c⟩)) → RF ((((w1.setCell ⟨q, 1 + n * 4, none⟩ (.bool true)).setCell ⟨q, 1 + n * 4 + 1, none⟩ (.int .i64 r)).setCell ⟨q, 1 + n * 4 + 2, none⟩ (.int .i64 qq)).setCell ⟨q, 1 + n * 4 + 3, none⟩ (.int .i64 (s.T n).c)) q lb N ⟨s.f, updT s.T n ⟨true, r, qq, (s.T n).c⟩⟩
          ∧ Mods (Rt q lb) w1 ((((w1.setCell ⟨q, 1 + n * 4, none⟩ (.bool true)).setCell ⟨q, 1 + n * 4 + 1, none⟩ (.int .i64 r)).setCell ⟨q, 1 + n * 4 + 2, none⟩ (.int .i64 qq)).setCell ⟨q, 1 + n * 4 + 3, none⟩ (.int .i64 (s.T n).c))) := fun w1 k hs => k.setA n hn0 ⟨true, r, qq, (s.T n).c⟩ (IV.out hs)
        have FZ : Hid (∀ w1, RF w1 q lb N s → ∀ k, w1.frozen? ⟨q, k, none⟩ = false) := fun w1 k j => k.fz j
        have AA : Hid (∀ w1, RF w1 q lb N s → A4 w1 q (1 + n * 4) (s.T n)) := fun w1 k => k.a4 n hn0
        have AL := Lib.hid (ALW.out (s.T n))
        have W0 : Hid (RF ((w.alloc (.cells #[.bool (s.T n).i, .int .i64 (s.T n).r, .int .i64 (s.T n).q, .int .i64 (s.T n).c] 40)).alloc (.cells #[.bool true, .int .i64 r, .int .i64 qq, .int .i64 (s.T n).c] 40)) q lb N s ∧
            A4 ((w.alloc (.cells #[.bool (s.T n).i, .int .i64 (s.T n).r, .int .i64 (s.T n).q, .int .i64 (s.T n).c] 40)).alloc (.cells #[.bool true, .int .i64 r, .int .i64 qq, .int .i64 (s.T n).c] 40)) w.heap.size 0 (s.T n) ∧
            A4 ((w.alloc (.cells #[.bool (s.T n).i, .int .i64 (s.T n).r, .int .i64 (s.T n).q, .int .i64 (s.T n).c] 40)).alloc (.cells #[.bool true, .int .i64 r, .int .i64 qq, .int .i64 (s.T n).c] 40)) (w.heap.size + 1) 0 ⟨true, r, qq, (s.T n).c⟩ ∧
            w.heap.size < ((w.alloc (.cells #[.bool (s.T n).i, .int .i64 (s.T n).r, .int .i64 (s.T n).q, .int .i64 (s.T n).c] 40)).alloc (.cells #[.bool true, .int .i64 r, .int .i64 qq, .int .i64 (s.T n).c] 40)).heap.size ∧
            w.heap.size + 1 < ((w.alloc (.cells #[.bool (s.T n).i, .int .i64 (s.T n).r, .int .i64 (s.T n).q, .int .i64 (s.T n).c] 40)).alloc (.cells #[.bool true, .int .i64 r, .int .i64 qq, .int .i64 (s.T n).c] 40)).heap.size ∧
            Below w.heap.size w ((w.alloc (.cells #[.bool (s.T n).i, .int .i64 (s.T n).r, .int .i64 (s.T n).q, .int .i64 (s.T n).c] 40)).alloc (.cells #[.bool true, .int .i64 r, .int .i64 qq, .int .i64 (s.T n).c] 40))) := by
          obtain ⟨b1, a1⟩ := AL.out
          have hsz : (w.alloc (.cells #[.bool (s.T n).i, .int .i64 (s.T n).r, .int .i64 (s.T n).q, .int .i64 (s.T n).c] 40)).heap.size = w.heap.size + 1 := by simp
          generalize w.alloc (.cells #[.bool (s.T n).i, .int .i64 (s.T n).r, .int .i64 (s.T n).q, .int .i64 (s.T n).c] 40) = v1 at *
          have e := heap_alloc_new v1 (.cells #[.bool true, .int .i64 r, .int .i64 qq, .int .i64 (s.T n).c] 40)
          have b2 : Below v1.heap.size v1 (v1.alloc (.cells #[.bool true, .int .i64 r, .int .i64 qq, .int .i64 (s.T n).c] 40)) := (Below.refl _ _).alloc (Nat.le_refl _) _
          refine ⟨(h.below b1).below b2, a1.below (by omega) b2, ?_, by simp [hsz]; omega, by simp [hsz], b1.trans (b2.mono b1.size)⟩
          rw [hsz] at e
          refine ⟨?_, ?_, ?_, ?_⟩ <;> (unfold World.cell?; rw [e]; rfl)
        have d3 : (w.alloc (.cells #[.bool (s.T n).i, .int .i64 (s.T n).r, .int .i64 (s.T n).q, .int .i64 (s.T n).c] 40)).cell? ⟨w.heap.size, 3, none⟩ = some (.int .i64 (s.T n).c) := AL.out.2.2.2.2
        have HSZ : (w.alloc (.cells #[.bool (s.T n).i, .int .i64 (s.T n).r, .int .i64 (s.T n).q, .int .i64 (s.T n).c] 40)).heap.size = w.heap.size + 1 := by simp
        clear h hL hi h1 h8 IV ALW AL HSZ
        generalize slack N s.T = sl at *
        generalize s.T n = A at *
        obtain ⟨ai, ar, aq, ac⟩ := A
        simp only at *
        obtain ⟨p, ep⟩ : ∃ p, Acc.sh ⟨ai, ar, aq, ac⟩ = p := ⟨_, rfl⟩
        obtain ⟨p', ep'⟩ : ∃ p', Acc.sh ⟨true, r, qq, ac⟩ = p' := ⟨_, rfl⟩
        rw [ep] at SB SET ⊢
        rw [ep'] at SET ⊢
        have hw : IntKind.i64.wrap (sl + p) = sl + p := IntWalk.i64_in _ (by omega)
        have SP : Hid (∀ w, Calls Try.prog 37 #[.agg #[.bool ai, .int .i64 ar, .int .i64 aq, .int .i64 ac]] w fun e w' => e = .returned (.int .i64 p) ∧ Below w.heap.size w w') := by rw [← ep]; exact partR _ _ _ _
        have SP' : Hid (∀ w, Calls Try.prog 37 #[.agg #[.bool true, .int .i64 r, .int .i64 qq, .int .i64 ac]] w fun e w' => e = .returned (.int .i64 p') ∧ Below w.heap.size w w') := by rw [← ep']; exact partR _ _ _ _
        clear SB SL hN ep ep'
        generalize hU : updT s.T n ⟨true, r, qq, ac⟩ = U at *
        clear hU
        obtain ⟨va, hva⟩ : ∃ va, w.heap.size = va := ⟨_, rfl⟩
        have W0' : Hid _ := W0.out
        rw [hva] at W0'
        clear W0
        have W0 := W0'
        clear W0'
        by_cases hs : sl + p < p'
        · rw [if_pos hs]
          go_enter Try.func30, Try.ntmps30
          go_wp2_with (first | (go_at_call 47; refine WR.out.mono ?_; rintro e w' ⟨rfl, rfl⟩) | (go_at_call 16; refine IN.out.mono ?_; rintro e w' ⟨rfl, rfl⟩))
          generalize (w.alloc (.cells #[.bool ai, .int .i64 ar, .int .i64 aq, .int .i64 ac] 40)).alloc (.cells #[.bool true, .int .i64 r, .int .i64 qq, .int .i64 ac] 40) = w0 at W0 ⊢
          obtain ⟨H1', P1', Q1', VA1', VB1', L1'⟩ := W0.out
          have H1 : Hid (RF w0.drew q lb N s) := H1'.heap rfl
          have P1 : Hid (A4 w0.drew va 0 ⟨ai, ar, aq, ac⟩) := P1'
          have Q1 : Hid (A4 w0.drew (va + 1) 0 ⟨true, r, qq, ac⟩) := Q1'
          have VA1 : Hid (va < w0.drew.heap.size) := VA1'
          have VB1 : Hid (va + 1 < w0.drew.heap.size) := VB1'
          rw [← hva] at L1'
          have L1 : Hid (Below w.heap.size w w0.drew) := L1'.drew
          clear H1' P1' Q1' VA1' VB1' L1' W0
          obtain ⟨x10, x11, x12, x13⟩ := P1.out
          obtain ⟨y10, y11, y12, y13⟩ := Q1.out
          have t0 : w0.cell? ⟨va, 0, none⟩ = some (.bool ai) := x10
          have t1 : w0.cell? ⟨va, 1, none⟩ = some (.int .i64 ar) := x11
          have t2 : w0.cell? ⟨va, 2, none⟩ = some (.int .i64 aq) := x12
          have t3 : w0.cell? ⟨va, 3, none⟩ = some (.int .i64 ac) := x13
          have u0 : w0.cell? ⟨va + 1, 0, none⟩ = some (.bool true) := y10
          have u1 : w0.cell? ⟨va + 1, 1, none⟩ = some (.int .i64 r) := y11
          have u2 : w0.cell? ⟨va + 1, 2, none⟩ = some (.int .i64 qq) := y12
          have u3 : w0.cell? ⟨va + 1, 3, none⟩ = some (.int .i64 ac) := y13
          clear k0 k1 k2 k3 d3
          go_region_held3 (fun W => (W.cell? ⟨va, 0, none⟩ = some (.bool ai) ∧ W.cell? ⟨va, 1, none⟩ = some (.int .i64 ar) ∧ W.cell? ⟨va, 2, none⟩ = some (.int .i64 aq) ∧ W.cell? ⟨va, 3, none⟩ = some (.int .i64 ac)) ∧ W.cell? ⟨va + 1, 0, none⟩ = some (.bool true) ∧ W.cell? ⟨va + 1, 1, none⟩ = some (.int .i64 r) ∧ W.cell? ⟨va + 1, 2, none⟩ = some (.int .i64 qq) ∧ W.cell? ⟨va + 1, 3, none⟩ = some (.int .i64 ac)) (go_keep)
            (first
              | (go_at_call 13; refine (HS.out w0.drew H1.out).mono ?_; rintro e w2 ⟨rfl, hb2⟩; have H2 := Lib.hid (RF.below H1.out hb2); have P2 : Hid (A4 w2 va 0 ⟨ai, ar, aq, ac⟩) := P1.out.below VA1.out hb2; have Q2 : Hid (A4 w2 (va + 1) 0 ⟨true, r, qq, ac⟩) := Q1.out.below VB1.out hb2; have VA2 : Hid (va < w2.heap.size) := Nat.lt_of_lt_of_le VA1.out hb2.size; have VB2 : Hid (va + 1 < w2.heap.size) := Nat.lt_of_lt_of_le VB1.out hb2.size; have L2 : Hid (Below w.heap.size w w2) := L1.out.trans (hb2.mono L1.out.size); obtain ⟨x20, x21, x22, x23⟩ := P2.out; obtain ⟨y20, y21, y22, y23⟩ := Q2.out; clear hb2)
              | (go_at_call_of 37 (Value.agg #[Value.bool ai, Value.int IntKind.i64 ar, Value.int IntKind.i64 aq, Value.int IntKind.i64 ac]); refine (SP.out w2).mono ?_; rintro e w3 ⟨rfl, hb3⟩; have H3 := Lib.hid (RF.below H2.out hb3); have P3 : Hid (A4 w3 va 0 ⟨ai, ar, aq, ac⟩) := P2.out.below VA2.out hb3; have Q3 : Hid (A4 w3 (va + 1) 0 ⟨true, r, qq, ac⟩) := Q2.out.below VB2.out hb3; have VA3 : Hid (va < w3.heap.size) := Nat.lt_of_lt_of_le VA2.out hb3.size; have VB3 : Hid (va + 1 < w3.heap.size) := Nat.lt_of_lt_of_le VB2.out hb3.size; have L3 : Hid (Below w.heap.size w w3) := L2.out.trans (hb3.mono L2.out.size); obtain ⟨x30, x31, x32, x33⟩ := P3.out; obtain ⟨y30, y31, y32, y33⟩ := Q3.out; clear hb3)
              | (go_at_call_of 37 (Value.agg #[Value.bool true, Value.int IntKind.i64 r, Value.int IntKind.i64 qq, Value.int IntKind.i64 ac]); refine (SP'.out w3).mono ?_; rintro e w4 ⟨rfl, hb4⟩; have H4 := Lib.hid (RF.below H3.out hb4); have P4 : Hid (A4 w4 va 0 ⟨ai, ar, aq, ac⟩) := P3.out.below VA3.out hb4; have Q4 : Hid (A4 w4 (va + 1) 0 ⟨true, r, qq, ac⟩) := Q3.out.below VB3.out hb4; have VA4 : Hid (va < w4.heap.size) := Nat.lt_of_lt_of_le VA3.out hb4.size; have VB4 : Hid (va + 1 < w4.heap.size) := Nat.lt_of_lt_of_le VB3.out hb4.size; have L4 : Hid (Below w.heap.size w w4) := L3.out.trans (hb4.mono L3.out.size); obtain ⟨x40, x41, x42, x43⟩ := P4.out; obtain ⟨y40, y41, y42, y43⟩ := Q4.out; clear hb4))
          go_wp2_with fail
          go_ret
          exact ⟨rfl, H4.out, Mods.of_below L4.out⟩
        · rw [if_neg hs]
          go_enter Try.func30, Try.ntmps30
          go_wp2_with (first | (go_at_call 47; refine WR.out.mono ?_; rintro e w' ⟨rfl, rfl⟩) | (go_at_call 16; refine IN.out.mono ?_; rintro e w' ⟨rfl, rfl⟩))
          generalize (w.alloc (.cells #[.bool ai, .int .i64 ar, .int .i64 aq, .int .i64 ac] 40)).alloc (.cells #[.bool true, .int .i64 r, .int .i64 qq, .int .i64 ac] 40) = w0 at W0 ⊢
          obtain ⟨H1', P1', Q1', VA1', VB1', L1'⟩ := W0.out
          have H1 : Hid (RF w0.drew q lb N s) := H1'.heap rfl
          have P1 : Hid (A4 w0.drew va 0 ⟨ai, ar, aq, ac⟩) := P1'
          have Q1 : Hid (A4 w0.drew (va + 1) 0 ⟨true, r, qq, ac⟩) := Q1'
          have VA1 : Hid (va < w0.drew.heap.size) := VA1'
          have VB1 : Hid (va + 1 < w0.drew.heap.size) := VB1'
          rw [← hva] at L1'
          have L1 : Hid (Below w.heap.size w w0.drew) := L1'.drew
          clear H1' P1' Q1' VA1' VB1' L1' W0
          obtain ⟨x10, x11, x12, x13⟩ := P1.out
          obtain ⟨y10, y11, y12, y13⟩ := Q1.out
          have t0 : w0.cell? ⟨va, 0, none⟩ = some (.bool ai) := x10
          have t1 : w0.cell? ⟨va, 1, none⟩ = some (.int .i64 ar) := x11
          have t2 : w0.cell? ⟨va, 2, none⟩ = some (.int .i64 aq) := x12
          have t3 : w0.cell? ⟨va, 3, none⟩ = some (.int .i64 ac) := x13
          have u0 : w0.cell? ⟨va + 1, 0, none⟩ = some (.bool true) := y10
          have u1 : w0.cell? ⟨va + 1, 1, none⟩ = some (.int .i64 r) := y11
          have u2 : w0.cell? ⟨va + 1, 2, none⟩ = some (.int .i64 qq) := y12
          have u3 : w0.cell? ⟨va + 1, 3, none⟩ = some (.int .i64 ac) := y13
          clear k0 k1 k2 k3 d3
          go_region_held3 (fun W => (W.cell? ⟨va, 0, none⟩ = some (.bool ai) ∧ W.cell? ⟨va, 1, none⟩ = some (.int .i64 ar) ∧ W.cell? ⟨va, 2, none⟩ = some (.int .i64 aq) ∧ W.cell? ⟨va, 3, none⟩ = some (.int .i64 ac)) ∧ W.cell? ⟨va + 1, 0, none⟩ = some (.bool true) ∧ W.cell? ⟨va + 1, 1, none⟩ = some (.int .i64 r) ∧ W.cell? ⟨va + 1, 2, none⟩ = some (.int .i64 qq) ∧ W.cell? ⟨va + 1, 3, none⟩ = some (.int .i64 ac)) (go_keep)
            (first
              | (go_at_call 13; refine (HS.out w0.drew H1.out).mono ?_; rintro e w2 ⟨rfl, hb2⟩; have H2 := Lib.hid (RF.below H1.out hb2); have P2 : Hid (A4 w2 va 0 ⟨ai, ar, aq, ac⟩) := P1.out.below VA1.out hb2; have Q2 : Hid (A4 w2 (va + 1) 0 ⟨true, r, qq, ac⟩) := Q1.out.below VB1.out hb2; have VA2 : Hid (va < w2.heap.size) := Nat.lt_of_lt_of_le VA1.out hb2.size; have VB2 : Hid (va + 1 < w2.heap.size) := Nat.lt_of_lt_of_le VB1.out hb2.size; have L2 : Hid (Below w.heap.size w w2) := L1.out.trans (hb2.mono L1.out.size); obtain ⟨x20, x21, x22, x23⟩ := P2.out; obtain ⟨y20, y21, y22, y23⟩ := Q2.out; clear hb2)
              | (go_at_call_of 37 (Value.agg #[Value.bool ai, Value.int IntKind.i64 ar, Value.int IntKind.i64 aq, Value.int IntKind.i64 ac]); refine (SP.out w2).mono ?_; rintro e w3 ⟨rfl, hb3⟩; have H3 := Lib.hid (RF.below H2.out hb3); have P3 : Hid (A4 w3 va 0 ⟨ai, ar, aq, ac⟩) := P2.out.below VA2.out hb3; have Q3 : Hid (A4 w3 (va + 1) 0 ⟨true, r, qq, ac⟩) := Q2.out.below VB2.out hb3; have VA3 : Hid (va < w3.heap.size) := Nat.lt_of_lt_of_le VA2.out hb3.size; have VB3 : Hid (va + 1 < w3.heap.size) := Nat.lt_of_lt_of_le VB2.out hb3.size; have L3 : Hid (Below w.heap.size w w3) := L2.out.trans (hb3.mono L2.out.size); obtain ⟨x30, x31, x32, x33⟩ := P3.out; obtain ⟨y30, y31, y32, y33⟩ := Q3.out; clear hb3)
              | (go_at_call_of 37 (Value.agg #[Value.bool true, Value.int IntKind.i64 r, Value.int IntKind.i64 qq, Value.int IntKind.i64 ac]); refine (SP'.out w3).mono ?_; rintro e w4 ⟨rfl, hb4⟩; have H4 := Lib.hid (RF.below H3.out hb4); have P4 : Hid (A4 w4 va 0 ⟨ai, ar, aq, ac⟩) := P3.out.below VA3.out hb4; have Q4 : Hid (A4 w4 (va + 1) 0 ⟨true, r, qq, ac⟩) := Q3.out.below VB3.out hb4; have VA4 : Hid (va < w4.heap.size) := Nat.lt_of_lt_of_le VA3.out hb4.size; have VB4 : Hid (va + 1 < w4.heap.size) := Nat.lt_of_lt_of_le VB3.out hb4.size; have L4 : Hid (Below w.heap.size w w4) := L3.out.trans (hb4.mono L3.out.size); obtain ⟨x40, x41, x42, x43⟩ := P4.out; obtain ⟨y40, y41, y42, y43⟩ := Q4.out; clear hb4))
          have z0 := FZ.out w4 H4.out (1 + n * 4)
          have z1 := FZ.out w4 H4.out (1 + n * 4 + 1)
          have z2 := FZ.out w4 H4.out (1 + n * 4 + 2)
          have z3 := FZ.out w4 H4.out (1 + n * 4 + 3)
          obtain ⟨g0, g1, g2, g3⟩ := AA.out w4 H4.out
          have ST := Lib.hid (SET.out w4.drew (H4.out.heap rfl) hs)
          clear SET FZ AA
          go_wp2_with fail
          go_still_tail 6, (by kernel_rfl)
          change wpList _ _ _ _ _ w4.drew
          go_wp2_with fail
          go_ret
          exact ⟨rfl, ST.out.1, (Mods.of_below (S := Rt q lb) L4.out.drew).trans ST.out.2 (fun _ hb => .inl hb)⟩
    · rw [if_neg hm]
      rw [decide_eq_false hm] at IN
      clear h hL hm
      go_enter Try.func30, Try.ntmps30
      go_wp2_with (first | (go_at_call 47; refine WR.out.mono ?_; rintro e w' ⟨rfl, rfl⟩) | (go_at_call 16; refine IN.out.mono ?_; rintro e w' ⟨rfl, rfl⟩))
      go_ret
      exact CR.same H.out
  · rw [if_neg hL]
    rw [decide_eq_false hL] at WR
    clear h hL
    go_enter Try.func30, Try.ntmps30
    go_wp2_with (go_at_call 47; refine WR.out.mono ?_; rintro e w' ⟨rfl, rfl⟩)
    go_ret
    exact CR.same H.out
end
end Go.Proofs.Ytjgkochbfjlinaa
