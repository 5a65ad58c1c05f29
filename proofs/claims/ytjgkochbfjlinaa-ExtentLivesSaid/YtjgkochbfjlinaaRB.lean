/-
  Contracts of the document's field: Admit, Resize, Remove, Take, Claim, Hold, Drop. Condition: it lies in memory, and no extent is held a hundred thousand times.
-/
import Derived.Test.YtjgkochbfjlinaaRA
namespace Go.Proofs.Ytjgkochbfjlinaa
open Go.RowKit
theorem roomC_roomI {N : Nat} {f : Nat → Nat} {T : Nat → Acc} (h : Inv N f T) (n : Nat) (h1 : 1 ≤ n) (h8 : n ≤ 8) (hr : roomC N T n = 0) : (T n).c < (T n).q ∧ ((T n).c < (T n).r ∨ slack N T ≠ 0) ∧ cnt f N < N := by
  unfold roomC at hr
  split at hr
  · cases hr
  · split at hr
    · cases hr
    · rename_i a b
      have hb : (T n).c < (T n).r ∨ slack N T ≠ 0 := by
        by_cases e : (T n).r ≤ (T n).c
        · exact .inr fun e2 => b ⟨e, e2⟩
        · exact .inl (by omega)
      exact ⟨by omega, hb, h.room n h1 h8 hb⟩
theorem inv_addI {N : Nat} {f : Nat → Nat} {T : Nat → Acc} (h : Inv N f T) (n i : Nat) (h1 : 1 ≤ n) (h8 : n ≤ 8) (hi : i < N) (hf : f i = 0) (hT : (T n).i = true) (hr : roomC N T n = 0) : Inv N (upd f i (f i + 1)) (addT T n 1) := by
  obtain ⟨r1, r2, _⟩ := roomC_roomI h n h1 h8 hr
  have hq := h.rq n
  have hc := h.cq n
  refine h.set n h1 h8 _ (fun e => by rw [hT] at e; cases e) hq ⟨by show 0 ≤ (T n).c + 1; omega, by show (T n).c + 1 ≤ (T n).q; omega⟩ ?_ ?_
  · have := h.sl
    unfold Acc.sh
    show max (T n).r ((T n).c + 1) ≤ slack N T + max (T n).r (T n).c
    omega
  · rw [cnt_hold hi hf]
    show (((cnt f N + 1 : Nat)) : Int) = cnt f N - (T n).c + ((T n).c + 1)
    omega
theorem inv_dropI {N : Nat} {f : Nat → Nat} {T : Nat → Acc} (h : Inv N f T) (n x : Nat) (h1 : 1 ≤ n) (h8 : n ≤ 8) (hT : (T n).i = true) (hx : x < N) (hc : (T n).c ≠ 0) (hf : f x = 1) : Inv N (upd f x 0) (addT T n (-1)) := by
  have hq := h.rq n
  have hc0 := h.cq n
  refine h.set n h1 h8 _ (fun e => by rw [hT] at e; cases e) hq ⟨by show 0 ≤ (T n).c + -1; omega, by show (T n).c + -1 ≤ (T n).q; omega⟩ ?_ ?_
  · have := h.sl
    unfold Acc.sh
    show max (T n).r ((T n).c + -1) ≤ slack N T + max (T n).r (T n).c
    omega
  · have := cnt_one hx (f := f) (by omega)
    show ((cnt (upd f x 0) N : Nat) : Int) = cnt f N - (T n).c + ((T n).c + -1)
    omega
def CR (w : World) (q lb N : Nat) (p : Int × St) (e : Ending) (w' : World) : Prop := e = .returned (.int .i64 p.1) ∧ RF w' q lb N p.2 ∧ Mods (Rt q lb) w w'
theorem upd_fb {f : Nat → Nat} {K i v : Nat} (h : ∀ i, f i ≤ K) (hv : v ≤ K) : ∀ j, upd f i v j ≤ K := fun j => by
  unfold upd; split
  · exact hv
  · exact h j
section
variable {w w' : World} {q lb N : Nat} {s : St}
theorem sMore_eq {N : Nat} {s : St} {x : Nat} (hx : x < N) (hf : s.f x < 2147483647) : sMore N s x = (0, ⟨upd s.f x (s.f x + 1), s.T⟩) := by
  have h1 : ¬ ((x : Int) < 0 ∨ (N : Int) ≤ x) := by omega
  have h2 : ¬ s.f x = 2147483647 := by omega
  unfold sMore hC hF
  rw [if_neg h1, if_neg h1, Int.toNat_natCast, if_neg h2, if_neg h2]
theorem CR.same {c : Int} (h : RF w q lb N s) : CR w q lb N (c, s) (.returned (.int .i64 c)) w := ⟨rfl, h, Mods.refl _ _⟩
set_option maxRecDepth 100000 in
set_option maxHeartbeats 1000000 in
theorem admR (h : RF w q lb N s) (t r qq : Int) : Calls Try.prog 29 #[.pointer (some ⟨q, 0, none⟩), .int .i64 t, .int .i64 r, .int .i64 qq] w (CR w q lb N (sAdm N s t r qq)) := by
  have H := Lib.hid h
  have WR := Lib.hid (wrongR h t r qq)
  unfold sAdm
  by_cases hm : mayL N t r qq
  · rw [if_pos hm]
    rw [decide_eq_true hm] at WR
    obtain ⟨n, rfl⟩ : ∃ n : Nat, t = n := ⟨t.toNat, by have := hm.1; omega⟩
    rw [Int.toNat_natCast]
    have hn0 : n < 9 := by have := hm.2.1; omega
    have h9 : (n : Int) < 9 := by omega
    obtain ⟨k0, k1, k2, k3⟩ := h.a4 n hn0
    have HS := Lib.hid (slackR h)
    by_cases hi : (s.T n).i = true
    · rw [if_pos hi]
      rw [hi] at k0
      clear h hm hi
      go_enter Try.func29, Try.ntmps29
      go_wp2_with (go_at_call 47; refine WR.out.mono ?_; rintro e w' ⟨rfl, rfl⟩)
      go_ret
      exact CR.same H.out
    · rw [if_neg hi]
      have hi' : (s.T n).i = false := by cases hq : (s.T n).i <;> simp_all
      rw [hi'] at k0
      by_cases hs : slack N s.T < r
      · rw [if_pos hs]
        clear h hm hi hi'
        generalize slack N s.T = sl at *
        go_enter Try.func29, Try.ntmps29
        go_wp2_with (go_at_call 47; refine WR.out.mono ?_; rintro e w' ⟨rfl, rfl⟩)
        refine HS.out.mono ?_
        rintro e w1 ⟨rfl, hb⟩
        have H1 := Lib.hid (H.out.below hb)
        have B1 := Lib.hid hb
        clear hb
        go_wp2_with fail
        go_ret
        exact ⟨rfl, H1.out, Mods.of_below B1.out⟩
      · rw [if_neg hs]
        have IV : Hid (Inv N s.f (updT s.T n ⟨true, r, qq, 0⟩)) := by
          have ho : s.T n = a0 := h.inv.out n hi'
          unfold mayL at hm
          refine h.inv.set n (by omega) (by omega) _ (fun e => by cases e) ⟨hm.2.2.1, hm.2.2.2.1, hm.2.2.2.2⟩ ⟨Int.le_refl _, by show 0 ≤ qq; omega⟩ ?_ ?_
          · rw [ho]; show max r 0 ≤ _ + max 0 0; omega
          · rw [ho]; show (cnt s.f N : Int) = cnt s.f N - 0 + 0; omega
        have SE : Hid (∀ w1, RF w1 q lb N s → _) := fun w1 k => RF.setA k n hn0 ⟨true, r, qq, 0⟩ IV.out
        have AA : Hid (∀ w1, RF w1 q lb N s → A4 w1 q (1 + n * 4) (s.T n)) := fun w1 k => k.a4 n hn0
        clear h hm hi hi' IV
        generalize slack N s.T = sl at *
        go_enter Try.func29, Try.ntmps29
        go_wp2_with (go_at_call 47; refine WR.out.mono ?_; rintro e w' ⟨rfl, rfl⟩)
        refine HS.out.mono ?_
        rintro e w1 ⟨rfl, hb⟩
        have H1 := Lib.hid (H.out.below hb)
        have B1 := Lib.hid hb
        have S1 := Lib.hid (SE.out w1 H1.out)
        obtain ⟨j0, j1, j2, j3⟩ := AA.out w1 H1.out
        have f0 := H1.out.fz (1 + n * 4)
        have f1 := H1.out.fz (1 + n * 4 + 1)
        have f2 := H1.out.fz (1 + n * 4 + 2)
        have f3 := H1.out.fz (1 + n * 4 + 3)
        clear hb SE AA k0 k1 k2 k3
        go_wp2_with fail
        go_ret
        exact ⟨rfl, S1.out.1, (Mods.of_below (S := Rt q lb) B1.out).trans S1.out.2 (fun _ hb => .inl hb)⟩
  · rw [if_neg hm]
    rw [decide_eq_false hm] at WR
    clear h hm
    go_enter Try.func29, Try.ntmps29
    go_wp2_with (go_at_call 47; refine WR.out.mono ?_; rintro e w' ⟨rfl, rfl⟩)
    go_ret
    exact CR.same H.out
set_option maxRecDepth 100000 in
set_option maxHeartbeats 1000000 in
theorem remR (h : RF w q lb N s) (t : Int) : Calls Try.prog 31 #[.pointer (some ⟨q, 0, none⟩), .int .i64 t] w (CR w q lb N (sRem s t)) := by
  have H := Lib.hid h
  have IN := Lib.hid (inR h t)
  unfold sRem
  by_cases hm : isIn s.T t
  · rw [if_pos hm]
    rw [decide_eq_true hm] at IN
    obtain ⟨n, rfl⟩ : ∃ n : Nat, t = n := ⟨t.toNat, by have := hm.1; omega⟩
    rw [Int.toNat_natCast]
    have hn0 : n < 9 := by have := hm.2.1; omega
    have h9 : (n : Int) < 9 := by omega
    obtain ⟨k0, k1, k2, k3⟩ := h.a4 n hn0
    have hc0 := (h.inv.cq n).1
    by_cases hc : (s.T n).c = 0
    · rw [if_pos hc]
      have IV : Hid (Inv N s.f (updT s.T n a0)) := by
        have hr := h.inv.rq n
        have h1 := hm.1
        refine h.inv.set n (by omega) (by omega) _ (fun _ => rfl) ⟨Int.le_refl _, Int.le_refl _, by show (0 : Int) ≤ N; omega⟩ ⟨Int.le_refl _, Int.le_refl _⟩ ?_ ?_
        · have := h.inv.sl
          have : 0 ≤ (s.T n).sh := by unfold Acc.sh; omega
          show max (0 : Int) 0 ≤ _
          omega
        · rw [hc]; show (cnt s.f N : Int) = cnt s.f N - 0 + 0; omega
      have S1 := Lib.hid (RF.setA h n hn0 a0 IV.out)
      have f0 := h.fz (1 + n * 4)
      have f1 := h.fz (1 + n * 4 + 1)
      have f2 := h.fz (1 + n * 4 + 2)
      have f3 := h.fz (1 + n * 4 + 3)
      rw [hc] at k3
      clear h hm hc hc0 IV
      go_enter Try.func31, Try.ntmps31
      go_wp2_with (go_at_call 16; refine IN.out.mono ?_; rintro e w' ⟨rfl, rfl⟩)
      go_ret
      exact ⟨rfl, S1.out.1, S1.out.2⟩
    · rw [if_neg hc]
      have hc1 : 0 < (s.T n).c := by omega
      clear h hm hc hc0
      generalize (s.T n).c = c at *
      go_enter Try.func31, Try.ntmps31
      go_wp2_with (go_at_call 16; refine IN.out.mono ?_; rintro e w' ⟨rfl, rfl⟩)
      go_ret
      exact CR.same H.out
  · rw [if_neg hm]
    rw [decide_eq_false hm] at IN
    clear h hm
    go_enter Try.func31, Try.ntmps31
    go_wp2_with (go_at_call 16; refine IN.out.mono ?_; rintro e w' ⟨rfl, rfl⟩)
    go_ret
    exact CR.same H.out
theorem hldR (h : RF w q lb N s) (hb : ∀ i, s.f i < 100000) (x : Nat) (hx : x < 4294967296) : Calls Try.prog 34 #[.pointer (some ⟨q, 0, none⟩), .int .u32 x] w (CR w q lb N (sHld N s x)) := by
  have H := Lib.hid h
  have TH := Lib.hid (thereR h x hx)
  have c0 := h.c0
  unfold sHld
  by_cases hN : x < N
  · rw [if_pos hN]
    rw [decide_eq_true hN] at TH
    obtain ⟨cl, fl⟩ := h.at x hN
    have hxN : (x : Int) < N := by omega
    by_cases hf : s.f x = 0
    · rw [if_pos hf]
      rw [hf] at cl
      clear h hb hN hf
      go_enter Try.func34, Try.ntmps34
      go_wp2_with (go_at_call 49; refine TH.out.mono ?_; rintro e w' ⟨rfl, rfl⟩)
      go_ret
      exact CR.same H.out
    · rw [if_neg hf]
      have hz : ((s.f x : Int) == 0) = false := by simp; exact hf
      have hbx := hb x
      have e1 := sMore_eq (s := s) hN (by omega)
      rw [e1]
      have IV : Hid (Inv N (upd s.f x (s.f x + 1)) s.T) := h.inv.times (cnt_more hN hf (by omega))
      have FB : Hid (∀ i, upd s.f x (s.f x + 1) i ≤ 100000) := upd_fb h.fb (by omega)
      have R0 : Hid (RW w.drew q lb N s.f s.T) := h.raw.heap rfl
      have d0 : w.drew.cell? ⟨q, 0, none⟩ = some (.slice (some ⟨lb, 0, none⟩) N N) := c0
      have dl : w.drew.cell? ⟨lb, x, none⟩ = some (.int .i64 (s.f x)) := cl
      have df : w.drew.frozen? ⟨lb, x, none⟩ = false := fl
      have SL := Lib.hid (R0.out.setL x (s.f x + 1))
      have hw : IntKind.i64.wrap ((s.f x : Int) + 1) = (s.f x : Int) + 1 := IntWalk.i64_in _ (by omega)
      have N1 := Lib.hid (And.intro h.n1 h.n2)
      have MD : Hid (Mods (Rt q lb) w w.drew) := Mods.alike (Mods.refl _ _) rfl rfl rfl rfl
      clear h hb hN hf hbx e1
      generalize s.f x = m at *
      go_enter Try.func34, Try.ntmps34
      go_wp2_with (go_at_call 49; refine TH.out.mono ?_; rintro e w' ⟨rfl, rfl⟩)
      go_still_tail 14, (by kernel_rfl)
      change wpList _ _ _ _ _ w.drew
      generalize w.drew = w2 at *
      go_wp2_with fail
      go_ret
      exact ⟨rfl, SL.out.1.full N1.out.1 N1.out.2 IV.out FB.out, MD.out.trans SL.out.2 (fun _ h => .inl h)⟩
  · rw [if_neg hN]
    rw [decide_eq_false hN] at TH
    clear h hb hN
    go_enter Try.func34, Try.ntmps34
    go_wp2_with (go_at_call 49; refine TH.out.mono ?_; rintro e w' ⟨rfl, rfl⟩)
    go_ret
    exact CR.same H.out
theorem clmR (h : RF w q lb N s) (hb : ∀ i, s.f i < 100000) (t : Int) (x : Nat) (hx : x < 4294967296) : Calls Try.prog 33 #[.pointer (some ⟨q, 0, none⟩), .int .i64 t, .int .u32 x] w (CR w q lb N (sClm N s t x)) := by
  have H := Lib.hid h
  have TH := Lib.hid (thereR h x hx)
  have IN := Lib.hid (inR h t)
  have c0 := h.c0
  unfold sClm
  by_cases hN : x < N
  · rw [if_pos hN]
    rw [decide_eq_true hN] at TH
    obtain ⟨cl, fl⟩ := h.at x hN
    have hxN : (x : Int) < N := by omega
    by_cases hm : isIn s.T t
    · rw [if_pos hm]
      rw [decide_eq_true hm] at IN
      obtain ⟨n, rfl⟩ : ∃ n : Nat, t = n := ⟨t.toNat, by have := hm.1; omega⟩
      rw [Int.toNat_natCast]
      obtain ⟨h1, h8, hi⟩ := hm
      rw [Int.toNat_natCast] at hi
      have hn0 : n < 9 := by omega
      have h9 : (n : Int) < 9 := by omega
      have hbx := hb x
      have N1 := Lib.hid (And.intro h.n1 h.n2)
      by_cases hf : s.f x = 0
      · rw [if_pos hf]
        have RO := Lib.hid (roomR h n (by omega) (by omega))
        unfold sGet
        by_cases hr : roomC N s.T n = 0
        · rw [if_pos hr]
          rw [hr] at RO
          obtain ⟨r1, r2, r3⟩ := roomC_roomI h.inv n (by omega) (by omega) hr
          have IV : Hid (Inv N (upd s.f x (s.f x + 1)) (addT s.T n 1)) := inv_addI h.inv n x (by omega) (by omega) hN hf hi hr
          have FB : Hid (∀ i, upd s.f x (s.f x + 1) i ≤ 100000) := upd_fb h.fb (by omega)
          have hcq := h.inv.cq n
          have hrq := h.inv.rq n
          have hN2 := h.n2
          have hw : IntKind.i64.wrap ((s.T n).c + 1) = (s.T n).c + 1 := IntWalk.i64_in _ (by omega)
          have S1 : Hid (∀ w1, RW w1 q lb N s.f s.T → RW (w1.setCell ⟨q, 1 + n * 4 + 3, none⟩ (.int .i64 ((s.T n).c + 1))) q lb N s.f (addT s.T n 1) ∧ Mods (Rt q lb) w1 (w1.setCell ⟨q, 1 + n * 4 + 3, none⟩ (.int .i64 ((s.T n).c + 1)))) := fun w1 k => k.setC n hn0 _
          have FA : Hid (∀ w1, RW w1 q lb N s.f s.T → _) := fun w1 k => k.facts n x hn0 hN
          have FA2 : Hid (∀ w1, RW w1 q lb N s.f (addT s.T n 1) → _) := fun w1 k => k.facts n x hn0 hN
          have hw2 : IntKind.i64.wrap ((s.f x : Int) + 1) = (s.f x : Int) + 1 := IntWalk.i64_in _ (by omega)
          rw [hf] at cl
          clear h hb hN h1 h8 hi hbx hr r1 r2 r3 hcq hrq hN2 hf
          generalize (s.T n).c = c at *
          go_enter Try.func33, Try.ntmps33
          go_wp2_with (first | (go_at_call 49; refine TH.out.mono ?_; rintro e w' ⟨rfl, rfl⟩) | (go_at_call 16; refine IN.out.mono ?_; rintro e w' ⟨rfl, rfl⟩))
          refine RO.out.mono ?_
          rintro e w2 ⟨rfl, hb2⟩
          have R2 : Hid (RW w2.drew q lb N s.f s.T) := (H.out.below hb2).raw.heap rfl
          have R2' : Hid (RW w2 q lb N s.f s.T) := (H.out.below hb2).raw
          have M2 : Hid (Mods (Rt q lb) w w2.drew) := Mods.of_below hb2.drew
          obtain ⟨y0, y1, y2, y3, y4⟩ := FA.out _ R2'.out
          obtain ⟨j0, j1, j2, j3, j4⟩ := FA.out _ R2.out
          have SC := Lib.hid (S1.out _ R2.out)
          clear hb2 c0 cl fl
          go_wp2_with fail
          go_still_tail 14, (by kernel_rfl)
          change wpList _ _ _ _ _ w2.drew
          clear y0 y1 y2 y3 y4 hw
          generalize w2.drew = w3 at *
          have R3 := Lib.hid SC.out.1
          have M3 := Lib.hid (M2.out.trans SC.out.2 (fun _ h => .inl h))
          go_wp2_with fail
          generalize w3.setCell ⟨q, 1 + n * 4 + 3, none⟩ (.int .i64 (c + 1)) = w4 at R3 M3 ⊢
          have R4 : Hid (RW w4.drew q lb N s.f (addT s.T n 1)) := R3.out.heap rfl
          have M4 : Hid (Mods (Rt q lb) w w4.drew) := Mods.alike M3.out rfl rfl rfl rfl
          obtain ⟨y0, y1, y2, y3, y4⟩ := FA2.out _ R3.out
          obtain ⟨u0, u1, u2, u3, u4⟩ := FA2.out _ R4.out
          have SL := Lib.hid (R4.out.setL x (s.f x + 1))
          clear j0 j1 j2 j3 j4 FA FA2 S1 SC R2 R2' M2
          generalize s.f x = m at *
          go_still_tail 14, (by kernel_rfl)
          change wpList _ _ _ _ _ w4.drew
          generalize w4.drew = w5 at *
          go_wp2_with fail
          go_ret
          exact ⟨rfl, SL.out.1.full N1.out.1 N1.out.2 IV.out FB.out, M4.out.trans SL.out.2 (fun _ h => .inl h)⟩
        · rw [if_neg hr]
          have hrb : (roomC N s.T n != 0) = true := by simp; exact hr
          rw [hf] at cl
          clear h hb hN h1 h8 hi hbx hr
          generalize roomC N s.T n = rc at *
          go_enter Try.func33, Try.ntmps33
          go_wp2_with (first | (go_at_call 49; refine TH.out.mono ?_; rintro e w' ⟨rfl, rfl⟩) | (go_at_call 16; refine IN.out.mono ?_; rintro e w' ⟨rfl, rfl⟩))
          refine RO.out.mono ?_
          rintro e w2 ⟨rfl, hb2⟩
          have H2 := Lib.hid (H.out.below hb2)
          have M2 : Hid (Mods (Rt q lb) w w2) := Mods.of_below hb2
          clear hb2
          go_wp2_with fail
          go_ret
          exact ⟨rfl, H2.out, M2.out⟩
      · rw [if_neg hf]
        have hz : ((s.f x : Int) == 0) = false := by simp; exact hf
        rw [sMore_eq (s := s) hN (by omega)]
        have IV : Hid (Inv N (upd s.f x (s.f x + 1)) s.T) := h.inv.times (cnt_more hN hf (by omega))
        have FB : Hid (∀ i, upd s.f x (s.f x + 1) i ≤ 100000) := upd_fb h.fb (by omega)
        have R0 : Hid (RW w.drew q lb N s.f s.T) := h.raw.heap rfl
        have d0 : w.drew.cell? ⟨q, 0, none⟩ = some (.slice (some ⟨lb, 0, none⟩) N N) := c0
        have dl : w.drew.cell? ⟨lb, x, none⟩ = some (.int .i64 (s.f x)) := cl
        have df : w.drew.frozen? ⟨lb, x, none⟩ = false := fl
        have SL := Lib.hid (R0.out.setL x (s.f x + 1))
        have hw : IntKind.i64.wrap ((s.f x : Int) + 1) = (s.f x : Int) + 1 := IntWalk.i64_in _ (by omega)
        have MD : Hid (Mods (Rt q lb) w w.drew) := Mods.alike (Mods.refl _ _) rfl rfl rfl rfl
        clear h hb hN hf hbx h1 h8 hi
        generalize s.f x = m at *
        go_enter Try.func33, Try.ntmps33
        go_wp2_with (first | (go_at_call 49; refine TH.out.mono ?_; rintro e w' ⟨rfl, rfl⟩) | (go_at_call 16; refine IN.out.mono ?_; rintro e w' ⟨rfl, rfl⟩))
        go_still_tail 14, (by kernel_rfl)
        change wpList _ _ _ _ _ w.drew
        generalize w.drew = w2 at *
        go_wp2_with fail
        go_ret
        exact ⟨rfl, SL.out.1.full N1.out.1 N1.out.2 IV.out FB.out, MD.out.trans SL.out.2 (fun _ h => .inl h)⟩
    · rw [if_neg hm]
      rw [decide_eq_false hm] at IN
      clear h hb hN hm
      go_enter Try.func33, Try.ntmps33
      go_wp2_with (first | (go_at_call 49; refine TH.out.mono ?_; rintro e w' ⟨rfl, rfl⟩) | (go_at_call 16; refine IN.out.mono ?_; rintro e w' ⟨rfl, rfl⟩))
      go_ret
      exact CR.same H.out
  · rw [if_neg hN]
    rw [decide_eq_false hN] at TH
    clear h hb hN
    go_enter Try.func33, Try.ntmps33
    go_wp2_with (go_at_call 49; refine TH.out.mono ?_; rintro e w' ⟨rfl, rfl⟩)
    go_ret
    exact CR.same H.out
end
end Go.Proofs.Ytjgkochbfjlinaa
