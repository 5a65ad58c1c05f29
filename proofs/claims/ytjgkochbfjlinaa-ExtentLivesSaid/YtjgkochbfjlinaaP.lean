/-
  Contract of the laws' do. Condition: a field lies in memory, and whose each extent is.
-/
import Derived.Test.YtjgkochbfjlinaaO
import Derived.Deep.QuietTactic
namespace Go.Proofs.Ytjgkochbfjlinaa
open Go.RowKit
section
variable {w w' : World} {og wh g rb mb wb N v : Nat} {s s' : St} {W : Nat → Int}
theorem doS_0 (N : Nat) (s : St) (W : Nat → Int) (t a b : Int) (x : Nat) : doS N s W 0 t a b x = ((0, (sAdm N s t a b).1), (sAdm N s t a b).2, W) := rfl
theorem doS_1 (N : Nat) (s : St) (W : Nat → Int) (t a b : Int) (x : Nat) : doS N s W 1 t a b x = ((0, (sRes N s t a b).1), (sRes N s t a b).2, W) := rfl
theorem doS_2 (N : Nat) (s : St) (W : Nat → Int) (t a b : Int) (x : Nat) : doS N s W 2 t a b x = ((0, (sRem s t).1), (sRem s t).2, W) := rfl
theorem doS_3 (N : Nat) (s : St) (W : Nat → Int) (t a b : Int) (x : Nat) : doS N s W 3 t a b x = ((xTak N s t, (sTak N s t).1), (sTak N s t).2, if (sTak N s t).1 = 0 then updW W (xTak N s t) t else W) := rfl
theorem doS_6 (N : Nat) (s : St) (W : Nat → Int) (t a b : Int) (x : Nat) : doS N s W 6 t a b x = (if W (x % N) = t then ((0, (sDrp N s t (x % N)).1), (sDrp N s t (x % N)).2, if (sDrp N s t (x % N)).2.f (x % N) = 0 then updW W (x % N) 0 else W) else ((0, 0), s, W)) := rfl
theorem doS_45 (N : Nat) (s : St) (W : Nat → Int) (kd t a b : Int) (x : Nat) (hk : kd = 4 ∨ kd = 5) : doS N s W kd t a b x = (if W (x % N) = t then ((0, (sHld N s (x % N)).1), (sHld N s (x % N)).2, W) else ((0, 0), s, W)) := by
  rcases hk with rfl | rfl <;> rfl
theorem doS_else (N : Nat) (s : St) (W : Nat → Int) (kd t a b : Int) (x : Nat) (h0 : kd ≠ 0) (h1 : kd ≠ 1) (h2 : kd ≠ 2) (h3 : kd ≠ 3) (h4 : kd ≠ 4) (h5 : kd ≠ 5) (h6 : kd ≠ 6) : doS N s W kd t a b x = ((0, 0), s, W) := by
  unfold doS
  rw [if_neg h0, if_neg h1, if_neg h2, if_neg h3, if_neg (by omega), if_neg h6]
set_option maxRecDepth 100000 in
set_option maxHeartbeats 4000000 in
theorem doC (h : OD w og wh g rb mb wb N s W) (kd t a b : Int) (x : Nat) (hx : x < 4294967296) :
    Calls Try.prog 27 #[.pointer (some ⟨og, 0, none⟩), .agg #[.int .i64 kd, .int .i64 t, .int .i64 a, .int .i64 b, .int .u32 x]] w (DoP w og wh g rb mb wb N (doS N s W kd t a b x)) := by
  have hN1 : 1 ≤ N := h.fs.row.n1
  have hN2 : N ≤ 2048 := h.fs.n2
  have hb0 : Hid (Below w.heap.size w (w.alloc (.cells #[.int .i64 kd, .int .i64 t, .int .i64 a, .int .i64 b, .int .u32 x] 34))) := (Below.refl _ _).alloc (Nat.le_refl _) _
  have OA : Hid (OD (w.alloc (.cells #[.int .i64 kd, .int .i64 t, .int .i64 a, .int .i64 b, .int .u32 x] 34)) og wh g rb mb wb N s W) := h.below hb0.out
  have PA : Hid (B5 (w.alloc (.cells #[.int .i64 kd, .int .i64 t, .int .i64 a, .int .i64 b, .int .u32 x] 34)) w.heap.size kd t a b x) := heap_alloc_new _ _
  have hu : IntKind.i64.wrap (x : Int) = x := u32_i64 x hx
  have htm : Int.tmod (x : Int) (N : Int) = ((x % N : Nat) : Int) := rfl
  have hyN : x % N < N := Nat.mod_lt _ (by omega)
  have hN0 : ((N : Int) == 0) = false := by simp; omega
  have hux : IntKind.i64.wrap (((x % N : Nat)) : Int) = ((x % N : Nat) : Int) := u32_i64 _ (by omega)
  have hux2 : IntKind.u32.wrap (((x % N : Nat)) : Int) = ((x % N : Nat) : Int) := by simp [IntKind.wrap, IntKind.bits, IntKind.signed]; omega
  obtain ⟨y, hy⟩ : ∃ y, x % N = y := ⟨_, rfl⟩
  rw [hy] at htm hyN hux hux2
  have a0 := OA.out.c1
  obtain ⟨b0, b1, b2, b3, b4⟩ := PA.out.c
  clear h
  by_cases k0 : kd = 0
  · have hkd : doS N s W kd t a b x = doS N s W 0 t a b x := by rw [k0]
    rw [hkd, doS_0]
    clear hkd
    have hk0 : (kd == 0) = true := by simp; omega
    have hk1 : (kd == 1) = false := by simp; omega
    have hk2 : (kd == 2) = false := by simp; omega
    have hk3 : (kd == 3) = false := by simp; omega
    have hk4 : (kd == 4) = false := by simp; omega
    have hk5 : (kd == 5) = false := by simp; omega
    have hk6 : (kd == 6) = false := by simp; omega
    clear k0
    go_enter Try.func27, Try.ntmps27
    go_wp2_with fail
    generalize w.heap.size = v at PA b0 b1 b2 b3 b4 ⊢
    generalize w.alloc (.cells #[.int .i64 kd, .int .i64 t, .int .i64 a, .int .i64 b, .int .u32 x] 34) = w0 at OA PA hb0 a0 b0 b1 b2 b3 b4 ⊢
    go_quiet (fail)
    generalize hw1 : w0.drewN _ = w1
    have O1 : Hid (OD w1 og wh g rb mb wb N s W) := by rw [← hw1]; exact OA.out.heap rfl
    have P1 : Hid (B5 w1 v kd t a b x) := by rw [← hw1]; exact PA.out.heap rfl
    have M1 : Hid (Mods (Dt g mb wb wh) w w1) := by rw [← hw1]; exact Mods.alike (Mods.of_below hb0.out) rfl rfl rfl rfl
    clear hw1 a0 b0 b1 b2 b3 b4 OA PA hb0 hu htm hN0
    have O2 : Hid (OD w1.drew og wh g rb mb wb N s W) := O1.out.heap rfl
    have P2 : Hid (B5 w1.drew v kd t a b x) := P1.out.heap rfl
    have M2 : Hid (Mods (Dt g mb wb wh) w w1.drew) := Mods.alike M1.out rfl rfl rfl rfl
    have a0 := O1.out.c0
    have a1 := O1.out.c1
    obtain ⟨b0, b1, b2, b3, b4⟩ := P1.out.c
    have d0 := O2.out.c0
    have d1 := O2.out.c1
    obtain ⟨e0, e1, e2, e3, e4⟩ := P2.out.c
    go_wp2_with fail
    go_region_held3 (fun W => W.cell? ⟨og, 0, none⟩ = some (.pointer (some ⟨g, 0, none⟩)) ∧ W.cell? ⟨v, 1, none⟩ = some (.int .i64 t) ∧ W.cell? ⟨v, 2, none⟩ = some (.int .i64 a) ∧ W.cell? ⟨v, 3, none⟩ = some (.int .i64 b)) (go_keep)
      ((go_at_call 20; refine (admS O2.out.fs t a b).mono ?_; rintro e w3 ⟨rfl, k3, m3⟩; have O3 := Lib.hid (O2.out.turn k3 m3); have P3 := Lib.hid (P2.out.mods m3 (P2.out.ap O2.out).1); have M3 := Lib.hid (M2.out.trans m3 (fun _ h => .inl (Ft_Dt h))); have f0 := O3.out.c0; have f1 := O3.out.c1; obtain ⟨g0, g1, g2, g3, g4⟩ := P3.out.c; clear k3 m3))
    go_wp2_with fail
    go_ret2
    exact ⟨rfl, O3.out, M3.out⟩
  by_cases k1 : kd = 1
  · have hkd : doS N s W kd t a b x = doS N s W 1 t a b x := by rw [k1]
    rw [hkd, doS_1]
    clear hkd
    have hk0 : (kd == 0) = false := by simp; omega
    have hk1 : (kd == 1) = true := by simp; omega
    have hk2 : (kd == 2) = false := by simp; omega
    have hk3 : (kd == 3) = false := by simp; omega
    have hk4 : (kd == 4) = false := by simp; omega
    have hk5 : (kd == 5) = false := by simp; omega
    have hk6 : (kd == 6) = false := by simp; omega
    clear k0 k1
    go_enter Try.func27, Try.ntmps27
    go_wp2_with fail
    generalize w.heap.size = v at PA b0 b1 b2 b3 b4 ⊢
    generalize w.alloc (.cells #[.int .i64 kd, .int .i64 t, .int .i64 a, .int .i64 b, .int .u32 x] 34) = w0 at OA PA hb0 a0 b0 b1 b2 b3 b4 ⊢
    go_quiet (fail)
    generalize hw1 : w0.drewN _ = w1
    have O1 : Hid (OD w1 og wh g rb mb wb N s W) := by rw [← hw1]; exact OA.out.heap rfl
    have P1 : Hid (B5 w1 v kd t a b x) := by rw [← hw1]; exact PA.out.heap rfl
    have M1 : Hid (Mods (Dt g mb wb wh) w w1) := by rw [← hw1]; exact Mods.alike (Mods.of_below hb0.out) rfl rfl rfl rfl
    clear hw1 a0 b0 b1 b2 b3 b4 OA PA hb0 hu htm hN0
    have O2 : Hid (OD w1.drew og wh g rb mb wb N s W) := O1.out.heap rfl
    have P2 : Hid (B5 w1.drew v kd t a b x) := P1.out.heap rfl
    have M2 : Hid (Mods (Dt g mb wb wh) w w1.drew) := Mods.alike M1.out rfl rfl rfl rfl
    have a0 := O1.out.c0
    have a1 := O1.out.c1
    obtain ⟨b0, b1, b2, b3, b4⟩ := P1.out.c
    have d0 := O2.out.c0
    have d1 := O2.out.c1
    obtain ⟨e0, e1, e2, e3, e4⟩ := P2.out.c
    go_wp2_with fail
    go_region_held3 (fun W => W.cell? ⟨og, 0, none⟩ = some (.pointer (some ⟨g, 0, none⟩)) ∧ W.cell? ⟨v, 1, none⟩ = some (.int .i64 t) ∧ W.cell? ⟨v, 2, none⟩ = some (.int .i64 a) ∧ W.cell? ⟨v, 3, none⟩ = some (.int .i64 b)) (go_keep)
      ((go_at_call 21; refine (resS O2.out.fs t a b).mono ?_; rintro e w3 ⟨rfl, k3, m3⟩; have O3 := Lib.hid (O2.out.turn k3 m3); have P3 := Lib.hid (P2.out.mods m3 (P2.out.ap O2.out).1); have M3 := Lib.hid (M2.out.trans m3 (fun _ h => .inl (Ft_Dt h))); have f0 := O3.out.c0; have f1 := O3.out.c1; obtain ⟨g0, g1, g2, g3, g4⟩ := P3.out.c; clear k3 m3))
    go_wp2_with fail
    go_ret2
    exact ⟨rfl, O3.out, M3.out⟩
  by_cases k2 : kd = 2
  · have hkd : doS N s W kd t a b x = doS N s W 2 t a b x := by rw [k2]
    rw [hkd, doS_2]
    clear hkd
    have hk0 : (kd == 0) = false := by simp; omega
    have hk1 : (kd == 1) = false := by simp; omega
    have hk2 : (kd == 2) = true := by simp; omega
    have hk3 : (kd == 3) = false := by simp; omega
    have hk4 : (kd == 4) = false := by simp; omega
    have hk5 : (kd == 5) = false := by simp; omega
    have hk6 : (kd == 6) = false := by simp; omega
    clear k0 k1 k2
    go_enter Try.func27, Try.ntmps27
    go_wp2_with fail
    generalize w.heap.size = v at PA b0 b1 b2 b3 b4 ⊢
    generalize w.alloc (.cells #[.int .i64 kd, .int .i64 t, .int .i64 a, .int .i64 b, .int .u32 x] 34) = w0 at OA PA hb0 a0 b0 b1 b2 b3 b4 ⊢
    go_quiet (fail)
    generalize hw1 : w0.drewN _ = w1
    have O1 : Hid (OD w1 og wh g rb mb wb N s W) := by rw [← hw1]; exact OA.out.heap rfl
    have P1 : Hid (B5 w1 v kd t a b x) := by rw [← hw1]; exact PA.out.heap rfl
    have M1 : Hid (Mods (Dt g mb wb wh) w w1) := by rw [← hw1]; exact Mods.alike (Mods.of_below hb0.out) rfl rfl rfl rfl
    clear hw1 a0 b0 b1 b2 b3 b4 OA PA hb0 hu htm hN0
    have O2 : Hid (OD w1.drew og wh g rb mb wb N s W) := O1.out.heap rfl
    have P2 : Hid (B5 w1.drew v kd t a b x) := P1.out.heap rfl
    have M2 : Hid (Mods (Dt g mb wb wh) w w1.drew) := Mods.alike M1.out rfl rfl rfl rfl
    have a0 := O1.out.c0
    have a1 := O1.out.c1
    obtain ⟨b0, b1, b2, b3, b4⟩ := P1.out.c
    have d0 := O2.out.c0
    have d1 := O2.out.c1
    obtain ⟨e0, e1, e2, e3, e4⟩ := P2.out.c
    go_wp2_with fail
    go_region_held3 (fun W => W.cell? ⟨og, 0, none⟩ = some (.pointer (some ⟨g, 0, none⟩)) ∧ W.cell? ⟨v, 1, none⟩ = some (.int .i64 t)) (go_keep)
      ((go_at_call 22; refine (remS O2.out.fs t).mono ?_; rintro e w3 ⟨rfl, k3, m3⟩; have O3 := Lib.hid (O2.out.turn k3 m3); have P3 := Lib.hid (P2.out.mods m3 (P2.out.ap O2.out).1); have M3 := Lib.hid (M2.out.trans m3 (fun _ h => .inl (Ft_Dt h))); have f0 := O3.out.c0; have f1 := O3.out.c1; obtain ⟨g0, g1, g2, g3, g4⟩ := P3.out.c; clear k3 m3))
    go_wp2_with fail
    go_ret2
    exact ⟨rfl, O3.out, M3.out⟩
  by_cases k3 : kd = 3
  · have hkd : doS N s W kd t a b x = doS N s W 3 t a b x := by rw [k3]
    rw [hkd, doS_3]
    clear hkd
    have hk0 : (kd == 0) = false := by simp; omega
    have hk1 : (kd == 1) = false := by simp; omega
    have hk2 : (kd == 2) = false := by simp; omega
    have hk3 : (kd == 3) = true := by simp; omega
    have hk4 : (kd == 4) = false := by simp; omega
    have hk5 : (kd == 5) = false := by simp; omega
    have hk6 : (kd == 6) = false := by simp; omega
    clear k0 k1 k2 k3
    have XL : Hid (∀ w1, FS w1 g rb mb wb N s → (sTak N s t).1 = 0 → xTak N s t < N) := fun w1 k e => sTak_lt k t e
    have TK : Hid (∀ w1, FS w1 g rb mb wb N s → Calls Try.prog 19 #[.pointer (some ⟨g, 0, none⟩), .int .i64 t] w1 fun e w' => e = .returned (.tuple #[.int .u32 (xTak N s t), .int .i64 (sTak N s t).1]) ∧ FS w' g rb mb wb N (sTak N s t).2 ∧ Mods (Ft g mb wb) w1 w') := fun w1 k => takS k t
    have XE : Hid (∀ w1, FS w1 g rb mb wb N s → xTak N s t ≤ 2048) := fun w1 k => sTak_le k t
    generalize xTak N s t = X at *
    generalize sTak N s t = r at *
    obtain ⟨c, s3⟩ := r
    simp only at XL TK XE ⊢
    have XU : IntKind.i64.wrap (X : Int) = (X : Int) := u32_i64 _ (by have := XE.out _ OA.out.fs; omega)
    by_cases hc : c = 0
    · have xl := XL.out _ OA.out.fs hc
      rw [if_pos hc]
      have xl2 : (X : Int) < N := by omega
      subst hc
      clear XL XE
      go_enter Try.func27, Try.ntmps27
      go_wp2_with fail
      generalize w.heap.size = v at PA b0 b1 b2 b3 b4 ⊢
      generalize w.alloc (.cells #[.int .i64 kd, .int .i64 t, .int .i64 a, .int .i64 b, .int .u32 x] 34) = w0 at OA PA hb0 a0 b0 b1 b2 b3 b4 ⊢
      go_quiet (fail)
      generalize hw1 : w0.drewN _ = w1
      have O1 : Hid (OD w1 og wh g rb mb wb N s W) := by rw [← hw1]; exact OA.out.heap rfl
      have P1 : Hid (B5 w1 v kd t a b x) := by rw [← hw1]; exact PA.out.heap rfl
      have M1 : Hid (Mods (Dt g mb wb wh) w w1) := by rw [← hw1]; exact Mods.alike (Mods.of_below hb0.out) rfl rfl rfl rfl
      clear hw1 a0 b0 b1 b2 b3 b4 OA PA hb0 hu htm hN0
      have O2 : Hid (OD w1.drew og wh g rb mb wb N s W) := O1.out.heap rfl
      have P2 : Hid (B5 w1.drew v kd t a b x) := P1.out.heap rfl
      have M2 : Hid (Mods (Dt g mb wb wh) w w1.drew) := Mods.alike M1.out rfl rfl rfl rfl
      have a0 := O1.out.c0
      have a1 := O1.out.c1
      obtain ⟨b0, b1, b2, b3, b4⟩ := P1.out.c
      have d0 := O2.out.c0
      have d1 := O2.out.c1
      obtain ⟨e0, e1, e2, e3, e4⟩ := P2.out.c
      go_wp2_with fail
      go_region_held3 (fun W => W.cell? ⟨og, 0, none⟩ = some (.pointer (some ⟨g, 0, none⟩)) ∧ W.cell? ⟨v, 1, none⟩ = some (.int .i64 t)) (go_keep)
        ((go_at_call 19; refine (TK.out w1.drew O2.out.fs).mono ?_; rintro e w3 ⟨rfl, k3, m3⟩; have O3 := Lib.hid (O2.out.turn k3 m3); have P3 := Lib.hid (P2.out.mods m3 (P2.out.ap O2.out).1); have M3 := Lib.hid (M2.out.trans m3 (fun _ h => .inl (Ft_Dt h))); have f0 := O3.out.c0; have f1 := O3.out.c1; obtain ⟨g0, g1, g2, g3, g4⟩ := P3.out.c; clear k3 m3))
      obtain ⟨n1, n2⟩ := O3.out.cell X xl
      have O4 : Hid (OD w3.drew og wh g rb mb wb N s3 W) := O3.out.heap rfl
      have M4 : Hid (Mods (Dt g mb wb wh) w w3.drew) := Mods.alike M3.out rfl rfl rfl rfl
      obtain ⟨l1, l2⟩ := O4.out.cell X xl
      have n3 := O4.out.c1
      have n4 : w3.drew.cell? ⟨v, 1, none⟩ = some (.int .i64 t) := g1
      go_wp2_with fail
      go_still_tail 8, (by kernel_rfl)
      change wpList _ _ _ _ _ w3.drew
      generalize hw4 : w3.drew = w4 at *
      clear hw4
      obtain ⟨O5, M5⟩ := O4.out.set X t
      have O5' := Lib.hid O5
      have M5' := Lib.hid M5
      clear O5 M5
      go_wp2_with fail
      go_ret2
      exact ⟨rfl, O5'.out, M4.out.trans M5'.out (fun _ h => .inl h)⟩
    · have hcb : (c == 0) = false := by simp; exact hc
      rw [if_neg hc]
      clear XL hc XE
      go_enter Try.func27, Try.ntmps27
      go_wp2_with fail
      generalize w.heap.size = v at PA b0 b1 b2 b3 b4 ⊢
      generalize w.alloc (.cells #[.int .i64 kd, .int .i64 t, .int .i64 a, .int .i64 b, .int .u32 x] 34) = w0 at OA PA hb0 a0 b0 b1 b2 b3 b4 ⊢
      go_quiet (fail)
      generalize hw1 : w0.drewN _ = w1
      have O1 : Hid (OD w1 og wh g rb mb wb N s W) := by rw [← hw1]; exact OA.out.heap rfl
      have P1 : Hid (B5 w1 v kd t a b x) := by rw [← hw1]; exact PA.out.heap rfl
      have M1 : Hid (Mods (Dt g mb wb wh) w w1) := by rw [← hw1]; exact Mods.alike (Mods.of_below hb0.out) rfl rfl rfl rfl
      clear hw1 a0 b0 b1 b2 b3 b4 OA PA hb0 hu htm hN0
      have O2 : Hid (OD w1.drew og wh g rb mb wb N s W) := O1.out.heap rfl
      have P2 : Hid (B5 w1.drew v kd t a b x) := P1.out.heap rfl
      have M2 : Hid (Mods (Dt g mb wb wh) w w1.drew) := Mods.alike M1.out rfl rfl rfl rfl
      have a0 := O1.out.c0
      have a1 := O1.out.c1
      obtain ⟨b0, b1, b2, b3, b4⟩ := P1.out.c
      have d0 := O2.out.c0
      have d1 := O2.out.c1
      obtain ⟨e0, e1, e2, e3, e4⟩ := P2.out.c
      go_wp2_with fail
      go_region_held3 (fun W => W.cell? ⟨og, 0, none⟩ = some (.pointer (some ⟨g, 0, none⟩)) ∧ W.cell? ⟨v, 1, none⟩ = some (.int .i64 t)) (go_keep)
        ((go_at_call 19; refine (TK.out w1.drew O2.out.fs).mono ?_; rintro e w3 ⟨rfl, k3, m3⟩; have O3 := Lib.hid (O2.out.turn k3 m3); have P3 := Lib.hid (P2.out.mods m3 (P2.out.ap O2.out).1); have M3 := Lib.hid (M2.out.trans m3 (fun _ h => .inl (Ft_Dt h))); have f0 := O3.out.c0; have f1 := O3.out.c1; obtain ⟨g0, g1, g2, g3, g4⟩ := P3.out.c; clear k3 m3))
      go_wp2_with fail
      go_ret2
      exact ⟨rfl, O3.out, M3.out⟩
  by_cases k4 : kd = 4
  · rw [doS_45 N s W kd t a b x (by omega), hy]
    have hk0 : (kd == 0) = false := by simp; omega
    have hk1 : (kd == 1) = false := by simp; omega
    have hk2 : (kd == 2) = false := by simp; omega
    have hk3 : (kd == 3) = false := by simp; omega
    have hk4 : (kd == 4) = true := by simp; omega
    have hk5 : (kd == 5) = false := by simp; omega
    have hk6 : (kd == 6) = false := by simp; omega
    clear k0 k1 k2 k3 k4
    by_cases hW : W y = t
    · rw [if_pos hW]
      have hWb : (W y == t) = true := by simp; exact hW
      have hWd : decide (W y = t) = true := decide_eq_true hW
      go_enter Try.func27, Try.ntmps27
      go_wp2_with fail
      generalize w.heap.size = v at PA b0 b1 b2 b3 b4 ⊢
      generalize w.alloc (.cells #[.int .i64 kd, .int .i64 t, .int .i64 a, .int .i64 b, .int .u32 x] 34) = w0 at OA PA hb0 a0 b0 b1 b2 b3 b4 ⊢
      go_quiet (fail)
      generalize hw1 : w0.drewN _ = w1
      have O1 : Hid (OD w1 og wh g rb mb wb N s W) := by rw [← hw1]; exact OA.out.heap rfl
      have P1 : Hid (B5 w1 v kd t a b x) := by rw [← hw1]; exact PA.out.heap rfl
      have M1 : Hid (Mods (Dt g mb wb wh) w w1) := by rw [← hw1]; exact Mods.alike (Mods.of_below hb0.out) rfl rfl rfl rfl
      clear hw1 a0 b0 b1 b2 b3 b4 OA PA hb0 hu htm hN0
      have O2 : Hid (OD w1.drew og wh g rb mb wb N s W) := O1.out.heap rfl
      have P2 : Hid (B5 w1.drew v kd t a b x) := P1.out.heap rfl
      have M2 : Hid (Mods (Dt g mb wb wh) w w1.drew) := Mods.alike M1.out rfl rfl rfl rfl
      have a0 := O1.out.c0
      have a1 := O1.out.c1
      obtain ⟨b0, b1, b2, b3, b4⟩ := P1.out.c
      have d0 := O2.out.c0
      have d1 := O2.out.c1
      obtain ⟨e0, e1, e2, e3, e4⟩ := P2.out.c
      obtain ⟨z1, z2⟩ := O1.out.cell y hyN
      go_wp2_with fail
      go_quiet (fail)
      generalize hw5 : w1.drewN _ = w5
      have O5 : Hid (OD w5 og wh g rb mb wb N s W) := by rw [← hw5]; exact O1.out.heap rfl
      have P5 : Hid (B5 w5 v kd t a b x) := by rw [← hw5]; exact P1.out.heap rfl
      have M5 : Hid (Mods (Dt g mb wb wh) w w5) := by rw [← hw5]; exact Mods.alike M1.out rfl rfl rfl rfl
      have y0 := O5.out.c0
      have y1 := O5.out.c1
      clear hw5 a0 a1 d0 d1 b0 b1 b2 b3 b4 e0 e1 e2 e3 e4 O1 O2 P1 P2 M1 M2 z1 z2
      go_wp2_with fail
      refine (hldS O5.out.fs y (by omega)).mono ?_
      rintro e w6 ⟨rfl, k6, m6⟩
      have O6 := Lib.hid (O5.out.turn k6 m6)
      have M6 := Lib.hid (M5.out.trans m6 (fun _ h => .inl (Ft_Dt h)))
      clear k6 m6
      go_wp2_with fail
      go_ret2
      exact ⟨rfl, O6.out, M6.out⟩
    · rw [if_neg hW]
      have hWb : (W y == t) = false := by simp; exact hW
      have hWd : decide (W y = t) = false := decide_eq_false hW
      go_enter Try.func27, Try.ntmps27
      go_wp2_with fail
      generalize w.heap.size = v at PA b0 b1 b2 b3 b4 ⊢
      generalize w.alloc (.cells #[.int .i64 kd, .int .i64 t, .int .i64 a, .int .i64 b, .int .u32 x] 34) = w0 at OA PA hb0 a0 b0 b1 b2 b3 b4 ⊢
      go_quiet (fail)
      generalize hw1 : w0.drewN _ = w1
      have O1 : Hid (OD w1 og wh g rb mb wb N s W) := by rw [← hw1]; exact OA.out.heap rfl
      have P1 : Hid (B5 w1 v kd t a b x) := by rw [← hw1]; exact PA.out.heap rfl
      have M1 : Hid (Mods (Dt g mb wb wh) w w1) := by rw [← hw1]; exact Mods.alike (Mods.of_below hb0.out) rfl rfl rfl rfl
      clear hw1 a0 b0 b1 b2 b3 b4 OA PA hb0 hu htm hN0
      have O2 : Hid (OD w1.drew og wh g rb mb wb N s W) := O1.out.heap rfl
      have P2 : Hid (B5 w1.drew v kd t a b x) := P1.out.heap rfl
      have M2 : Hid (Mods (Dt g mb wb wh) w w1.drew) := Mods.alike M1.out rfl rfl rfl rfl
      have a0 := O1.out.c0
      have a1 := O1.out.c1
      obtain ⟨b0, b1, b2, b3, b4⟩ := P1.out.c
      have d0 := O2.out.c0
      have d1 := O2.out.c1
      obtain ⟨e0, e1, e2, e3, e4⟩ := P2.out.c
      obtain ⟨z1, z2⟩ := O1.out.cell y hyN
      go_wp2_with fail
      go_quiet (fail)
      generalize hw5 : w1.drewN _ = w5
      have O5 : Hid (OD w5 og wh g rb mb wb N s W) := by rw [← hw5]; exact O1.out.heap rfl
      have P5 : Hid (B5 w5 v kd t a b x) := by rw [← hw5]; exact P1.out.heap rfl
      have M5 : Hid (Mods (Dt g mb wb wh) w w5) := by rw [← hw5]; exact Mods.alike M1.out rfl rfl rfl rfl
      have y0 := O5.out.c0
      have y1 := O5.out.c1
      clear hw5 a0 a1 d0 d1 b0 b1 b2 b3 b4 e0 e1 e2 e3 e4 O1 O2 P1 P2 M1 M2 z1 z2
      go_wp2_with fail
      go_ret2
      exact ⟨rfl, O5.out, M5.out⟩
  by_cases k5 : kd = 5
  · rw [doS_45 N s W kd t a b x (by omega), hy]
    have hk0 : (kd == 0) = false := by simp; omega
    have hk1 : (kd == 1) = false := by simp; omega
    have hk2 : (kd == 2) = false := by simp; omega
    have hk3 : (kd == 3) = false := by simp; omega
    have hk4 : (kd == 4) = false := by simp; omega
    have hk5 : (kd == 5) = true := by simp; omega
    have hk6 : (kd == 6) = false := by simp; omega
    clear k0 k1 k2 k3 k4 k5
    by_cases hW : W y = t
    · rw [if_pos hW]
      have hWb : (W y == t) = true := by simp; exact hW
      have hWd : decide (W y = t) = true := decide_eq_true hW
      go_enter Try.func27, Try.ntmps27
      go_wp2_with fail
      generalize w.heap.size = v at PA b0 b1 b2 b3 b4 ⊢
      generalize w.alloc (.cells #[.int .i64 kd, .int .i64 t, .int .i64 a, .int .i64 b, .int .u32 x] 34) = w0 at OA PA hb0 a0 b0 b1 b2 b3 b4 ⊢
      go_quiet (fail)
      generalize hw1 : w0.drewN _ = w1
      have O1 : Hid (OD w1 og wh g rb mb wb N s W) := by rw [← hw1]; exact OA.out.heap rfl
      have P1 : Hid (B5 w1 v kd t a b x) := by rw [← hw1]; exact PA.out.heap rfl
      have M1 : Hid (Mods (Dt g mb wb wh) w w1) := by rw [← hw1]; exact Mods.alike (Mods.of_below hb0.out) rfl rfl rfl rfl
      clear hw1 a0 b0 b1 b2 b3 b4 OA PA hb0 hu htm hN0
      have O2 : Hid (OD w1.drew og wh g rb mb wb N s W) := O1.out.heap rfl
      have P2 : Hid (B5 w1.drew v kd t a b x) := P1.out.heap rfl
      have M2 : Hid (Mods (Dt g mb wb wh) w w1.drew) := Mods.alike M1.out rfl rfl rfl rfl
      have a0 := O1.out.c0
      have a1 := O1.out.c1
      obtain ⟨b0, b1, b2, b3, b4⟩ := P1.out.c
      have d0 := O2.out.c0
      have d1 := O2.out.c1
      obtain ⟨e0, e1, e2, e3, e4⟩ := P2.out.c
      obtain ⟨z1, z2⟩ := O1.out.cell y hyN
      go_wp2_with fail
      go_quiet (fail)
      generalize hw5 : w1.drewN _ = w5
      have O5 : Hid (OD w5 og wh g rb mb wb N s W) := by rw [← hw5]; exact O1.out.heap rfl
      have P5 : Hid (B5 w5 v kd t a b x) := by rw [← hw5]; exact P1.out.heap rfl
      have M5 : Hid (Mods (Dt g mb wb wh) w w5) := by rw [← hw5]; exact Mods.alike M1.out rfl rfl rfl rfl
      have y0 := O5.out.c0
      have y1 := O5.out.c1
      clear hw5 a0 a1 d0 d1 b0 b1 b2 b3 b4 e0 e1 e2 e3 e4 O1 O2 P1 P2 M1 M2 z1 z2
      go_wp2_with fail
      refine (hldS O5.out.fs y (by omega)).mono ?_
      rintro e w6 ⟨rfl, k6, m6⟩
      have O6 := Lib.hid (O5.out.turn k6 m6)
      have M6 := Lib.hid (M5.out.trans m6 (fun _ h => .inl (Ft_Dt h)))
      clear k6 m6
      go_wp2_with fail
      go_ret2
      exact ⟨rfl, O6.out, M6.out⟩
    · rw [if_neg hW]
      have hWb : (W y == t) = false := by simp; exact hW
      have hWd : decide (W y = t) = false := decide_eq_false hW
      go_enter Try.func27, Try.ntmps27
      go_wp2_with fail
      generalize w.heap.size = v at PA b0 b1 b2 b3 b4 ⊢
      generalize w.alloc (.cells #[.int .i64 kd, .int .i64 t, .int .i64 a, .int .i64 b, .int .u32 x] 34) = w0 at OA PA hb0 a0 b0 b1 b2 b3 b4 ⊢
      go_quiet (fail)
      generalize hw1 : w0.drewN _ = w1
      have O1 : Hid (OD w1 og wh g rb mb wb N s W) := by rw [← hw1]; exact OA.out.heap rfl
      have P1 : Hid (B5 w1 v kd t a b x) := by rw [← hw1]; exact PA.out.heap rfl
      have M1 : Hid (Mods (Dt g mb wb wh) w w1) := by rw [← hw1]; exact Mods.alike (Mods.of_below hb0.out) rfl rfl rfl rfl
      clear hw1 a0 b0 b1 b2 b3 b4 OA PA hb0 hu htm hN0
      have O2 : Hid (OD w1.drew og wh g rb mb wb N s W) := O1.out.heap rfl
      have P2 : Hid (B5 w1.drew v kd t a b x) := P1.out.heap rfl
      have M2 : Hid (Mods (Dt g mb wb wh) w w1.drew) := Mods.alike M1.out rfl rfl rfl rfl
      have a0 := O1.out.c0
      have a1 := O1.out.c1
      obtain ⟨b0, b1, b2, b3, b4⟩ := P1.out.c
      have d0 := O2.out.c0
      have d1 := O2.out.c1
      obtain ⟨e0, e1, e2, e3, e4⟩ := P2.out.c
      obtain ⟨z1, z2⟩ := O1.out.cell y hyN
      go_wp2_with fail
      go_quiet (fail)
      generalize hw5 : w1.drewN _ = w5
      have O5 : Hid (OD w5 og wh g rb mb wb N s W) := by rw [← hw5]; exact O1.out.heap rfl
      have P5 : Hid (B5 w5 v kd t a b x) := by rw [← hw5]; exact P1.out.heap rfl
      have M5 : Hid (Mods (Dt g mb wb wh) w w5) := by rw [← hw5]; exact Mods.alike M1.out rfl rfl rfl rfl
      have y0 := O5.out.c0
      have y1 := O5.out.c1
      clear hw5 a0 a1 d0 d1 b0 b1 b2 b3 b4 e0 e1 e2 e3 e4 O1 O2 P1 P2 M1 M2 z1 z2
      go_wp2_with fail
      go_ret2
      exact ⟨rfl, O5.out, M5.out⟩
  by_cases k6 : kd = 6
  · have hkd : doS N s W kd t a b x = doS N s W 6 t a b x := by rw [k6]
    rw [hkd, doS_6, hy]
    clear hkd
    have hk0 : (kd == 0) = false := by simp; omega
    have hk1 : (kd == 1) = false := by simp; omega
    have hk2 : (kd == 2) = false := by simp; omega
    have hk3 : (kd == 3) = false := by simp; omega
    have hk4 : (kd == 4) = false := by simp; omega
    have hk5 : (kd == 5) = false := by simp; omega
    have hk6 : (kd == 6) = true := by simp; omega
    clear k0 k1 k2 k3 k4 k5 k6
    by_cases hW : W y = t
    · rw [if_pos hW]
      have DK : Hid (∀ w1, FS w1 g rb mb wb N s → Calls Try.prog 25 #[.pointer (some ⟨g, 0, none⟩), .int .i64 t, .int .u32 y] w1 (CS w1 g rb mb wb N (sDrp N s t y))) := fun w1 k => drpS k t y (by omega)
      have hWb : (W y == t) = true := by simp; exact hW
      have hWd : decide (W y = t) = true := decide_eq_true hW
      generalize sDrp N s t y = r at *
      obtain ⟨c, s3⟩ := r
      simp only at DK ⊢
      by_cases hz : s3.f y = 0
      · rw [if_pos hz]
        go_enter Try.func27, Try.ntmps27
        go_wp2_with fail
        generalize w.heap.size = v at PA b0 b1 b2 b3 b4 ⊢
        generalize w.alloc (.cells #[.int .i64 kd, .int .i64 t, .int .i64 a, .int .i64 b, .int .u32 x] 34) = w0 at OA PA hb0 a0 b0 b1 b2 b3 b4 ⊢
        go_quiet (fail)
        generalize hw1 : w0.drewN _ = w1
        have O1 : Hid (OD w1 og wh g rb mb wb N s W) := by rw [← hw1]; exact OA.out.heap rfl
        have P1 : Hid (B5 w1 v kd t a b x) := by rw [← hw1]; exact PA.out.heap rfl
        have M1 : Hid (Mods (Dt g mb wb wh) w w1) := by rw [← hw1]; exact Mods.alike (Mods.of_below hb0.out) rfl rfl rfl rfl
        clear hw1 a0 b0 b1 b2 b3 b4 OA PA hb0 hu htm hN0
        have O2 : Hid (OD w1.drew og wh g rb mb wb N s W) := O1.out.heap rfl
        have P2 : Hid (B5 w1.drew v kd t a b x) := P1.out.heap rfl
        have M2 : Hid (Mods (Dt g mb wb wh) w w1.drew) := Mods.alike M1.out rfl rfl rfl rfl
        have a0 := O1.out.c0
        have a1 := O1.out.c1
        obtain ⟨b0, b1, b2, b3, b4⟩ := P1.out.c
        have d0 := O2.out.c0
        have d1 := O2.out.c1
        obtain ⟨e0, e1, e2, e3, e4⟩ := P2.out.c
        obtain ⟨z1, z2⟩ := O1.out.cell y hyN
        go_wp2_with fail
        go_quiet (fail)
        generalize hw5 : w1.drewN _ = w5
        have O5 : Hid (OD w5 og wh g rb mb wb N s W) := by rw [← hw5]; exact O1.out.heap rfl
        have P5 : Hid (B5 w5 v kd t a b x) := by rw [← hw5]; exact P1.out.heap rfl
        have M5 : Hid (Mods (Dt g mb wb wh) w w5) := by rw [← hw5]; exact Mods.alike M1.out rfl rfl rfl rfl
        have y0 := O5.out.c0
        have y1 := O5.out.c1
        clear hw5 a0 a1 d0 d1 b0 b1 b2 b3 b4 e0 e1 e2 e3 e4 O1 O2 P1 P2 M1 M2 z1 z2
        have O6 : Hid (OD w5.drew og wh g rb mb wb N s W) := O5.out.heap rfl
        have P6 : Hid (B5 w5.drew v kd t a b x) := P5.out.heap rfl
        have M6 : Hid (Mods (Dt g mb wb wh) w w5.drew) := Mods.alike M5.out rfl rfl rfl rfl
        have u0 := O6.out.c0
        obtain ⟨_, u1, _, _, _⟩ := P6.out.c
        obtain ⟨_, v1, _, _, _⟩ := P5.out.c
        go_wp2_with fail
        go_region_held3 (fun W => W.cell? ⟨og, 0, none⟩ = some (.pointer (some ⟨g, 0, none⟩)) ∧ W.cell? ⟨v, 1, none⟩ = some (.int .i64 t)) (go_keep)
          ((go_at_call 25; refine (DK.out w5.drew O6.out.fs).mono ?_; rintro e w3 ⟨rfl, k3, m3⟩; have O3 := Lib.hid (O6.out.turn k3 m3); have P3 := Lib.hid (P6.out.mods m3 (P6.out.ap O6.out).1); have M3 := Lib.hid (M6.out.trans m3 (fun _ h => .inl (Ft_Dt h))); have f0 := O3.out.c0; have f1 := O3.out.c1; obtain ⟨g0, g1, g2, g3, g4⟩ := P3.out.c; clear k3 m3))
        have TI := Lib.hid (timesF O3.out.fs y (by omega))
        rw [hz] at TI
        obtain ⟨n1, n2⟩ := O3.out.cell y hyN
        obtain ⟨O7, M7⟩ := O3.out.set y 0
        have O7' := Lib.hid O7
        have M7' := Lib.hid M7
        clear O7 M7
        go_wp2_with fail
        refine TI.out.mono ?_
        rintro e w' ⟨rfl, rfl⟩
        go_wp2_with fail
        go_ret2
        exact ⟨rfl, O7'.out, M3.out.trans M7'.out (fun _ h => .inl h)⟩
      · rw [if_neg hz]
        go_enter Try.func27, Try.ntmps27
        go_wp2_with fail
        generalize w.heap.size = v at PA b0 b1 b2 b3 b4 ⊢
        generalize w.alloc (.cells #[.int .i64 kd, .int .i64 t, .int .i64 a, .int .i64 b, .int .u32 x] 34) = w0 at OA PA hb0 a0 b0 b1 b2 b3 b4 ⊢
        go_quiet (fail)
        generalize hw1 : w0.drewN _ = w1
        have O1 : Hid (OD w1 og wh g rb mb wb N s W) := by rw [← hw1]; exact OA.out.heap rfl
        have P1 : Hid (B5 w1 v kd t a b x) := by rw [← hw1]; exact PA.out.heap rfl
        have M1 : Hid (Mods (Dt g mb wb wh) w w1) := by rw [← hw1]; exact Mods.alike (Mods.of_below hb0.out) rfl rfl rfl rfl
        clear hw1 a0 b0 b1 b2 b3 b4 OA PA hb0 hu htm hN0
        have O2 : Hid (OD w1.drew og wh g rb mb wb N s W) := O1.out.heap rfl
        have P2 : Hid (B5 w1.drew v kd t a b x) := P1.out.heap rfl
        have M2 : Hid (Mods (Dt g mb wb wh) w w1.drew) := Mods.alike M1.out rfl rfl rfl rfl
        have a0 := O1.out.c0
        have a1 := O1.out.c1
        obtain ⟨b0, b1, b2, b3, b4⟩ := P1.out.c
        have d0 := O2.out.c0
        have d1 := O2.out.c1
        obtain ⟨e0, e1, e2, e3, e4⟩ := P2.out.c
        obtain ⟨z1, z2⟩ := O1.out.cell y hyN
        go_wp2_with fail
        go_quiet (fail)
        generalize hw5 : w1.drewN _ = w5
        have O5 : Hid (OD w5 og wh g rb mb wb N s W) := by rw [← hw5]; exact O1.out.heap rfl
        have P5 : Hid (B5 w5 v kd t a b x) := by rw [← hw5]; exact P1.out.heap rfl
        have M5 : Hid (Mods (Dt g mb wb wh) w w5) := by rw [← hw5]; exact Mods.alike M1.out rfl rfl rfl rfl
        have y0 := O5.out.c0
        have y1 := O5.out.c1
        clear hw5 a0 a1 d0 d1 b0 b1 b2 b3 b4 e0 e1 e2 e3 e4 O1 O2 P1 P2 M1 M2 z1 z2
        have O6 : Hid (OD w5.drew og wh g rb mb wb N s W) := O5.out.heap rfl
        have P6 : Hid (B5 w5.drew v kd t a b x) := P5.out.heap rfl
        have M6 : Hid (Mods (Dt g mb wb wh) w w5.drew) := Mods.alike M5.out rfl rfl rfl rfl
        have u0 := O6.out.c0
        obtain ⟨_, u1, _, _, _⟩ := P6.out.c
        obtain ⟨_, v1, _, _, _⟩ := P5.out.c
        go_wp2_with fail
        go_region_held3 (fun W => W.cell? ⟨og, 0, none⟩ = some (.pointer (some ⟨g, 0, none⟩)) ∧ W.cell? ⟨v, 1, none⟩ = some (.int .i64 t)) (go_keep)
          ((go_at_call 25; refine (DK.out w5.drew O6.out.fs).mono ?_; rintro e w3 ⟨rfl, k3, m3⟩; have O3 := Lib.hid (O6.out.turn k3 m3); have P3 := Lib.hid (P6.out.mods m3 (P6.out.ap O6.out).1); have M3 := Lib.hid (M6.out.trans m3 (fun _ h => .inl (Ft_Dt h))); have f0 := O3.out.c0; have f1 := O3.out.c1; obtain ⟨g0, g1, g2, g3, g4⟩ := P3.out.c; clear k3 m3))
        have TI := Lib.hid (timesF O3.out.fs y (by omega))
        have hzb : ((s3.f y : Int) == 0) = false := by simp; exact hz
        go_wp2_with fail
        refine TI.out.mono ?_
        rintro e w' ⟨rfl, rfl⟩
        go_wp2_with fail
        go_ret2
        exact ⟨rfl, O3.out, M3.out⟩
    · rw [if_neg hW]
      have hWb : (W y == t) = false := by simp; exact hW
      have hWd : decide (W y = t) = false := decide_eq_false hW
      go_enter Try.func27, Try.ntmps27
      go_wp2_with fail
      generalize w.heap.size = v at PA b0 b1 b2 b3 b4 ⊢
      generalize w.alloc (.cells #[.int .i64 kd, .int .i64 t, .int .i64 a, .int .i64 b, .int .u32 x] 34) = w0 at OA PA hb0 a0 b0 b1 b2 b3 b4 ⊢
      go_quiet (fail)
      generalize hw1 : w0.drewN _ = w1
      have O1 : Hid (OD w1 og wh g rb mb wb N s W) := by rw [← hw1]; exact OA.out.heap rfl
      have P1 : Hid (B5 w1 v kd t a b x) := by rw [← hw1]; exact PA.out.heap rfl
      have M1 : Hid (Mods (Dt g mb wb wh) w w1) := by rw [← hw1]; exact Mods.alike (Mods.of_below hb0.out) rfl rfl rfl rfl
      clear hw1 a0 b0 b1 b2 b3 b4 OA PA hb0 hu htm hN0
      have O2 : Hid (OD w1.drew og wh g rb mb wb N s W) := O1.out.heap rfl
      have P2 : Hid (B5 w1.drew v kd t a b x) := P1.out.heap rfl
      have M2 : Hid (Mods (Dt g mb wb wh) w w1.drew) := Mods.alike M1.out rfl rfl rfl rfl
      have a0 := O1.out.c0
      have a1 := O1.out.c1
      obtain ⟨b0, b1, b2, b3, b4⟩ := P1.out.c
      have d0 := O2.out.c0
      have d1 := O2.out.c1
      obtain ⟨e0, e1, e2, e3, e4⟩ := P2.out.c
      obtain ⟨z1, z2⟩ := O1.out.cell y hyN
      go_wp2_with fail
      go_quiet (fail)
      generalize hw5 : w1.drewN _ = w5
      have O5 : Hid (OD w5 og wh g rb mb wb N s W) := by rw [← hw5]; exact O1.out.heap rfl
      have P5 : Hid (B5 w5 v kd t a b x) := by rw [← hw5]; exact P1.out.heap rfl
      have M5 : Hid (Mods (Dt g mb wb wh) w w5) := by rw [← hw5]; exact Mods.alike M1.out rfl rfl rfl rfl
      have y0 := O5.out.c0
      have y1 := O5.out.c1
      clear hw5 a0 a1 d0 d1 b0 b1 b2 b3 b4 e0 e1 e2 e3 e4 O1 O2 P1 P2 M1 M2 z1 z2
      go_wp2_with fail
      go_ret2
      exact ⟨rfl, O5.out, M5.out⟩
  rw [doS_else N s W kd t a b x k0 k1 k2 k3 k4 k5 k6]
  have hk0 : (kd == 0) = false := by simp; omega
  have hk1 : (kd == 1) = false := by simp; omega
  have hk2 : (kd == 2) = false := by simp; omega
  have hk3 : (kd == 3) = false := by simp; omega
  have hk4 : (kd == 4) = false := by simp; omega
  have hk5 : (kd == 5) = false := by simp; omega
  have hk6 : (kd == 6) = false := by simp; omega
  clear k0 k1 k2 k3 k4 k5 k6
  go_enter Try.func27, Try.ntmps27
  go_wp2_with fail
  generalize w.heap.size = v at PA b0 b1 b2 b3 b4 ⊢
  generalize w.alloc (.cells #[.int .i64 kd, .int .i64 t, .int .i64 a, .int .i64 b, .int .u32 x] 34) = w0 at OA PA hb0 a0 b0 b1 b2 b3 b4 ⊢
  go_quiet (fail)
  generalize hw1 : w0.drewN _ = w1
  have O1 : Hid (OD w1 og wh g rb mb wb N s W) := by rw [← hw1]; exact OA.out.heap rfl
  have P1 : Hid (B5 w1 v kd t a b x) := by rw [← hw1]; exact PA.out.heap rfl
  have M1 : Hid (Mods (Dt g mb wb wh) w w1) := by rw [← hw1]; exact Mods.alike (Mods.of_below hb0.out) rfl rfl rfl rfl
  clear hw1 a0 b0 b1 b2 b3 b4 OA PA hb0 hu htm hN0
  have O2 : Hid (OD w1.drew og wh g rb mb wb N s W) := O1.out.heap rfl
  have P2 : Hid (B5 w1.drew v kd t a b x) := P1.out.heap rfl
  have M2 : Hid (Mods (Dt g mb wb wh) w w1.drew) := Mods.alike M1.out rfl rfl rfl rfl
  have a0 := O1.out.c0
  have a1 := O1.out.c1
  obtain ⟨b0, b1, b2, b3, b4⟩ := P1.out.c
  have d0 := O2.out.c0
  have d1 := O2.out.c1
  obtain ⟨e0, e1, e2, e3, e4⟩ := P2.out.c
  go_wp2_with fail
  go_ret2
  exact ⟨rfl, O1.out, M1.out⟩
end
end Go.Proofs.Ytjgkochbfjlinaa
