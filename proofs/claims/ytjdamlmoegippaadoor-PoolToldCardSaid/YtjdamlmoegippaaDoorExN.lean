/-
  Contracts of package extent: charge, Take, Claim, Hold, Drop. Condition: the field lies in memory.
-/
import Derived.Test.YtjdamlmoegippaaDoorPlC
import Derived.Deep.RegionHeld3
namespace Go.Proofs.YtjdamlmoegippaaDoor.ex
open Go.RowKit
section
variable {w w' : World} {g rb mb wb N : Nat} {f : Nat → Nat} {T : Nat → Acc}
/-- May a tenant have one more? -/
def roomC (N : Nat) (T : Nat → Acc) (n : Nat) : Int := if (T n).q ≤ (T n).c then 60 else if (T n).r ≤ (T n).c ∧ slack N T = 0 then 61 else 0
/-- A tenant's charge, changed. -/
def addT (T : Nat → Acc) (n : Nat) (d : Int) : Nat → Acc := updT T n ⟨(T n).i, (T n).r, (T n).q, (T n).c + d⟩
theorem roomC_room (h : FD w g rb mb wb N f T) (n : Nat) (h1 : 1 ≤ n) (h8 : n ≤ 8) (hr : roomC N T n = 0) : (T n).c < (T n).q ∧ ((T n).c < (T n).r ∨ slack N T ≠ 0) ∧ cnt f N < N := by
  unfold roomC at hr
  split at hr
  · cases hr
  · split at hr
    · cases hr
    · rename_i a b
      have hb : (T n).c < (T n).r ∨ slack N T ≠ 0 := by
        by_cases e : (T n).r ≤ (T n).c
        · exact .inr fun e2 => b ⟨e, e2⟩
        · exact .inl (by omega)
      exact ⟨by omega, hb, h.inv.room n h1 h8 hb⟩
theorem inv_add (h : FD w g rb mb wb N f T) (n i : Nat) (h1 : 1 ≤ n) (h8 : n ≤ 8) (hi : i < N) (hf : f i = 0) (hT : (T n).i = true) (hr : roomC N T n = 0) : Inv N (upd f i (f i + 1)) (addT T n 1) := by
  obtain ⟨r1, r2, _⟩ := roomC_room h n h1 h8 hr
  have hq := h.inv.rq n
  have hc := h.inv.cq n
  refine h.inv.set n h1 h8 _ (fun e => by rw [hT] at e; cases e) hq ⟨by show 0 ≤ (T n).c + 1; omega, by show (T n).c + 1 ≤ (T n).q; omega⟩ ?_ ?_
  · have := h.inv.sl
    unfold Acc.sh
    show max (T n).r ((T n).c + 1) ≤ slack N T + max (T n).r (T n).c
    omega
  · rw [cnt_hold hi hf]
    show (((cnt f N + 1 : Nat)) : Int) = cnt f N - (T n).c + ((T n).c + 1)
    omega
theorem charge_no (h : FD w g rb mb wb N f T) (n : Nat) (h1 : 1 ≤ n) (h8 : n ≤ 8) (i : Int) (hr : roomC N T n ≠ 0) :
    Calls Tryd.prog 43 #[.pointer (some ⟨g, 0, none⟩), .pointer (some ⟨g, 1 + n * 4, none⟩), .int .i64 i] w (TF w g rb mb wb N f T (.int .i64 (roomC N T n))) := by
  have H := Lib.hid h
  have c1 := h.at1 n (by omega)
  have c2 := h.at2 n (by omega)
  have c3 := h.at3 n (by omega)
  have HS : Hid (∀ w1, FD w1 g rb mb wb N f T → Calls Tryd.prog 19 #[.pointer (some ⟨g, 0, none⟩)] w1 fun e w' => e = .returned (.int .i64 (slack N T)) ∧ Below w1.heap.size w1 w') := fun w1 k => slackF k
  have CE : Hid (∀ w1, FD w1 g rb mb wb N f T → w1.cell? ⟨g, 1 + n * 4 + 1, none⟩ = some (.int .i64 (T n).r) ∧ w1.cell? ⟨g, 1 + n * 4 + 3, none⟩ = some (.int .i64 (T n).c)) := fun w1 k => ⟨k.at1 n (by omega), k.at3 n (by omega)⟩
  unfold roomC at hr ⊢
  by_cases hq : (T n).q ≤ (T n).c
  · rw [if_pos hq]
    clear h hr
    generalize (T n).q = q at *
    generalize (T n).c = c at *
    have hd : decide (q ≤ c) = true := decide_eq_true hq
    go_enter Tryd.func43, Tryd.ntmps43
    go_wp2_with fail
    go_quiet (fail)
    go_wp2_with fail
    go_ret
    exact ⟨rfl, H.out.heap rfl, Mods.alike (Mods.refl _ _) rfl rfl rfl rfl⟩
  · rw [if_neg hq] at hr ⊢
    have hb : (T n).r ≤ (T n).c ∧ slack N T = 0 := by
      by_cases e : (T n).r ≤ (T n).c ∧ slack N T = 0
      · exact e
      · rw [if_neg e] at hr; exact absurd rfl hr
    rw [if_pos hb]
    obtain ⟨k1, k2⟩ := hb
    rw [k2] at HS
    clear h hr k2
    generalize (T n).q = q at *
    generalize (T n).c = c at *
    generalize (T n).r = r at *
    have hd1 : decide (q ≤ c) = false := decide_eq_false hq
    have hd2 : decide (r ≤ c) = true := decide_eq_true k1
    go_enter Tryd.func43, Tryd.ntmps43
    go_wp2_with fail
    go_quiet (fail)
    generalize hw2 : w.drewN _ = w2
    have H2 : Hid (FD w2 g rb mb wb N f T) := by rw [← hw2]; exact H.out.heap rfl
    have M2 : Hid (Mods (Ft g mb wb) w w2) := by rw [← hw2]; exact Mods.alike (Mods.refl _ _) rfl rfl rfl rfl
    have c1' := (CE.out _ H2.out).1
    have c3' := (CE.out _ H2.out).2
    have D2 : Hid (FD w2.drew g rb mb wb N f T) := H2.out.heap rfl
    clear hw2 c1 c2 c3
    go_wp2_with fail
    go_region_held3 (fun W => W.cell? ⟨g, 1 + n * 4 + 1, none⟩ = some (.int .i64 r) ∧ W.cell? ⟨g, 1 + n * 4 + 3, none⟩ = some (.int .i64 c)) (go_keep)
      ((go_at_call 19; refine (HS.out w2.drew D2.out).mono ?_; rintro e w3 ⟨rfl, hb3⟩; have H3 := Lib.hid (FD.below D2.out hb3); have B3 := Lib.hid hb3; have d1 := (CE.out _ H3.out).1; have d3 := (CE.out _ H3.out).2; clear hb3))
    go_wp2_with fail
    go_ret
    exact ⟨rfl, H3.out, (Mods.alike (w' := w2.drew) M2.out rfl rfl rfl rfl).trans (Mods.of_below (S := Ft g mb wb) B3.out) (fun _ hb => .inl hb)⟩
set_option maxRecDepth 100000 in
theorem charge_yes (h : FD w g rb mb wb N f T) (n i : Nat) (h1 : 1 ≤ n) (h8 : n ≤ 8) (hT : (T n).i = true) (hi : i < N) (hf : f i = 0) (hr : roomC N T n = 0) :
    Calls Tryd.prog 43 #[.pointer (some ⟨g, 0, none⟩), .pointer (some ⟨g, 1 + n * 4, none⟩), .int .i64 i] w (TF w g rb mb wb N (upd f i (f i + 1)) (addT T n 1) (.int .i64 0)) := by
  have H := Lib.hid h
  have HI := Lib.hid (inv_add h n i h1 h8 hi hf hT hr)
  have hn0 : n < 9 := by omega
  have c1 := h.at1 n hn0
  have c2 := h.at2 n hn0
  have c3 := h.at3 n hn0
  obtain ⟨r1, r2, _⟩ := roomC_room h n h1 h8 hr
  have hc0 := (h.inv.cq n).1
  have hq0 := (h.inv.rq n).2.2
  have hN := h.n2
  have HH : Hid (∀ w1, FD w1 g rb mb wb N f T → ∃ c0, w1.cell? ⟨g, 1 + n * 4 + 3, none⟩ = some (.int .i64 c0) ∧ c0 = (T n).c ∧ w1.frozen? ⟨g, 1 + n * 4 + 3, none⟩ = false) := fun w1 k => ⟨_, k.at3 n hn0, rfl, k.fz _⟩
  have HB : Hid (∀ w1, FD w1 g rb mb wb N f T → Calls Tryd.prog 58 #[.pointer (some ⟨rb, 0, none⟩), .int .i64 i] (w1.setCell ⟨g, 1 + n * 4 + 3, none⟩ (.int .i64 ((T n).c + 1))) (TF w1 g rb mb wb N (upd f i (f i + 1)) (addT T n 1) (.int .i64 0))) := by
    intro w1 k
    have hm : Mods (fun k => k = g) w1 (w1.setCell ⟨g, 1 + n * 4 + 3, none⟩ (.int .i64 ((T n).c + 1))) := Mods.set _ _ _ rfl
    refine (holdB (k.row.mods hm (fun e => k.ne1 e.symm) (fun e => k.ne2 e.symm) (fun e => k.ne3 e.symm)) i hi (by omega)).mono ?_
    rintro e w2 ⟨rfl, r, m⟩
    have hlt : g < (w1.setCell ⟨g, 1 + n * 4 + 3, none⟩ (.int .i64 ((T n).c + 1))).heap.size := Nat.lt_of_lt_of_le k.lt hm.size
    refine ⟨rfl, ⟨(m.block g hlt (by have := k.ne2; have := k.ne3; unfold Bt; omega)).trans (k.blkC n hn0 _), r, k.n2, HI.out⟩, ?_⟩
    exact (hm.mono (fun b hb => .inl (.inl hb))).trans m (fun b hb => .inl (.inr hb))
  have C0 : Hid (∀ w1, FD w1 g rb mb wb N f T → w1.cell? ⟨g, 0, none⟩ = some (.pointer (some ⟨rb, 0, none⟩))) := fun w1 k => k.c0
  have HS : Hid (∀ w1, FD w1 g rb mb wb N f T → Calls Tryd.prog 19 #[.pointer (some ⟨g, 0, none⟩)] w1 fun e w' => e = .returned (.int .i64 (slack N T)) ∧ Below w1.heap.size w1 w') := fun w1 k => slackF k
  have CE : Hid (∀ w1, FD w1 g rb mb wb N f T → w1.cell? ⟨g, 1 + n * 4 + 1, none⟩ = some (.int .i64 (T n).r) ∧ w1.cell? ⟨g, 1 + n * 4 + 3, none⟩ = some (.int .i64 (T n).c)) := fun w1 k => ⟨k.at1 n (by omega), k.at3 n (by omega)⟩
  have cE : ((T n).c + 1) ≤ 2048 := by omega
  have hq : ¬ (T n).q ≤ (T n).c := by omega
  by_cases hrc : (T n).r ≤ (T n).c
  · have hs0 : (slack N T == 0) = false := by rcases r2 with e | e; · omega
                                              · simp; exact e
    clear h hr r1 r2 hi hf hT HI
    generalize slack N T = s at *
    generalize (T n).q = q at *
    generalize (T n).c = c at *
    generalize (T n).r = r at *
    have hd1 : decide (q ≤ c) = false := decide_eq_false hq
    have hd2 : decide (r ≤ c) = true := decide_eq_true hrc
    go_enter Tryd.func43, Tryd.ntmps43
    go_wp2_with fail
    go_quiet (fail)
    generalize hw2 : w.drewN _ = w2
    have H2 : Hid (FD w2 g rb mb wb N f T) := by rw [← hw2]; exact H.out.heap rfl
    have M2 : Hid (Mods (Ft g mb wb) w w2) := by rw [← hw2]; exact Mods.alike (Mods.refl _ _) rfl rfl rfl rfl
    have c1' := (CE.out _ H2.out).1
    have c3' := (CE.out _ H2.out).2
    have D2 : Hid (FD w2.drew g rb mb wb N f T) := H2.out.heap rfl
    clear hw2 c1 c2 c3
    go_wp2_with fail
    go_region_held3 (fun W => W.cell? ⟨g, 1 + n * 4 + 1, none⟩ = some (.int .i64 r) ∧ W.cell? ⟨g, 1 + n * 4 + 3, none⟩ = some (.int .i64 c)) (go_keep)
      ((go_at_call 19; refine (HS.out w2.drew D2.out).mono ?_; rintro e w3 ⟨rfl, hb3⟩; have H3 := Lib.hid (FD.below D2.out hb3); have B3 := Lib.hid hb3; have d1 := (CE.out _ H3.out).1; have d3 := (CE.out _ H3.out).2; clear hb3))
    obtain ⟨_, _, _, f3'⟩ := HH.out w3 H3.out
    have c0' := C0.out w3 H3.out
    have HB' := Lib.hid (HB.out w3 H3.out)
    have M3 : Hid (Mods (Ft g mb wb) w w3) := (Mods.alike (w' := w2.drew) M2.out rfl rfl rfl rfl).trans (Mods.of_below (S := Ft g mb wb) B3.out) (fun _ hb => .inl hb)
    clear HH C0 HB
    go_wp2_with fail
    refine HB'.out.mono ?_
    rintro e w4 ⟨rfl, k4, m4⟩
    have H4 := Lib.hid k4
    have M4 := Lib.hid m4
    clear k4 m4
    go_wp2_with fail
    go_ret
    exact ⟨rfl, H4.out, M3.out.trans M4.out (fun _ hb => .inl hb)⟩
  · clear h hr r1 r2 hi hf hT HI
    generalize slack N T = s at *
    generalize (T n).q = q at *
    generalize (T n).c = c at *
    generalize (T n).r = r at *
    have hd1 : decide (q ≤ c) = false := decide_eq_false hq
    have hd2 : decide (r ≤ c) = false := decide_eq_false hrc
    go_enter Tryd.func43, Tryd.ntmps43
    go_wp2_with fail
    go_quiet (fail)
    generalize hw2 : w.drewN _ = w2
    have H2 : Hid (FD w2 g rb mb wb N f T) := by rw [← hw2]; exact H.out.heap rfl
    have M2 : Hid (Mods (Ft g mb wb) w w2) := by rw [← hw2]; exact Mods.alike (Mods.refl _ _) rfl rfl rfl rfl
    have c1' := (CE.out _ H2.out).1
    have c3' := (CE.out _ H2.out).2
    have D2 : Hid (FD w2.drew g rb mb wb N f T) := H2.out.heap rfl
    clear hw2 c1 c2 c3
    go_wp2_with fail
    go_quiet (fail)
    generalize hw3 : w2.drewN _ = w3
    have H3 : Hid (FD w3 g rb mb wb N f T) := by rw [← hw3]; exact H2.out.heap rfl
    have M3 : Hid (Mods (Ft g mb wb) w w3) := by rw [← hw3]; exact Mods.alike M2.out rfl rfl rfl rfl
    have d1' := (CE.out _ H3.out).1
    have d3' := (CE.out _ H3.out).2
    obtain ⟨_, _, _, f3'⟩ := HH.out w3 H3.out
    have c0' := C0.out w3 H3.out
    have HB' := Lib.hid (HB.out w3 H3.out)
    clear hw3 c1' c3' HH C0 HB
    go_wp2_with fail
    refine HB'.out.mono ?_
    rintro e w4 ⟨rfl, k4, m4⟩
    have H4 := Lib.hid k4
    have M4 := Lib.hid m4
    clear k4 m4
    go_wp2_with fail
    go_ret
    exact ⟨rfl, H4.out, M3.out.trans M4.out (fun _ hb => .inl hb)⟩
end
end Go.Proofs.YtjdamlmoegippaaDoor.ex
