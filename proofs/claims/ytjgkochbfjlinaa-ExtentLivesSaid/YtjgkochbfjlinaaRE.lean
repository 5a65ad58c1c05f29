/-
  Contract of the law's one: an op of the field and of the document's field. Condition: both lie in memory, in the same state, and no extent is held a hundred thousand times.
-/
import Derived.Test.YtjgkochbfjlinaaRD
namespace Go.Proofs.Ytjgkochbfjlinaa
open Go.RowKit
/-- What an op makes of a state. -/
def oneS (N : Nat) (s : St) (kd t a b : Int) (x : Nat) : St :=
  if kd = 0 then (sAdm N s t a b).2
  else if kd = 1 then (sRes N s t a b).2
  else if kd = 2 then (sRem s t).2
  else if kd = 3 then (sTak N s t).2
  else if kd = 4 then (sClm N s t x).2
  else if kd = 5 then (sHld N s x).2
  else if kd = 6 then (sDrp N s t x).2
  else s
theorem fb_get {N : Nat} {s : St} {k : Nat} (h : ∀ i, s.f i ≤ k) (n x : Nat) : ∀ i, (sGet N s n x).2.f i ≤ k + 1 := by
  unfold sGet
  split
  · exact upd_fb (fun i => Nat.le_succ_of_le (h i)) (by have := h x; omega)
  · exact fun i => Nat.le_succ_of_le (h i)
theorem fb_more {N : Nat} {s : St} {k : Nat} (h : ∀ i, s.f i ≤ k) (x : Nat) : ∀ i, (sMore N s x).2.f i ≤ k + 1 := by
  show ∀ i, hF N s.f x i ≤ k + 1
  unfold hF
  split
  · exact fun i => Nat.le_succ_of_le (h i)
  · split
    · exact fun i => Nat.le_succ_of_le (h i)
    · exact upd_fb (fun i => Nat.le_succ_of_le (h i)) (by have := h (x : Int).toNat; omega)
theorem fb_one {N : Nat} {s : St} {k : Nat} (h : ∀ i, s.f i ≤ k) (kd t a b : Int) (x : Nat) : ∀ i, (oneS N s kd t a b x).f i ≤ k + 1 := by
  have h' : ∀ i, s.f i ≤ k + 1 := fun i => Nat.le_succ_of_le (h i)
  unfold oneS
  split
  · unfold sAdm; split
    · split
      · exact h'
      · split
        · exact h'
        · exact h'
    · exact h'
  split
  · unfold sRes; split
    · split
      · split
        · exact h'
        · split
          · exact h'
          · exact h'
      · exact h'
    · exact h'
  split
  · unfold sRem; split
    · split
      · exact h'
      · exact h'
    · exact h'
  split
  · unfold sTak; split
    · exact fb_get h _ _
    · exact h'
  split
  · unfold sClm; split
    · split
      · split
        · exact fb_get h _ _
        · exact fb_more h _
      · exact h'
    · exact h'
  split
  · unfold sHld; split
    · split
      · exact h'
      · exact fb_more h _
    · exact h'
  split
  · unfold sDrp; split
    · split
      · split
        · exact h'
        · exact upd_fb h' (by have := h x; omega)
      · exact h'
    · exact h'
  · exact h'
def Qt (g mb wb q lb : Nat) : Nat → Prop := fun k => (k = g ∨ k = mb ∨ k = wb) ∨ (k = q ∨ k = lb)
section
variable {w w' : World} {g rb mb wb q lb N v : Nat} {s s' : St} {kd t a b x : Int}
theorem bo_ap (h : FS w g rb mb wb N s) (r : RF w q lb N s') : q ≠ g ∧ q ≠ rb ∧ q ≠ mb ∧ q ≠ wb ∧ lb ≠ g ∧ lb ≠ rb ∧ lb ≠ mb ∧ lb ≠ wb := by
  have e := r.blk
  obtain ⟨cs, e2, _⟩ := r.lst
  refine ⟨?_, ?_, ?_, ?_, ?_, ?_, ?_, ?_⟩ <;> intro k
  · rw [k, h.blk] at e; injection e with e; injection e with _ e; cases e
  · rw [k, h.row.row] at e; injection e with e; injection e with _ e; cases e
  · obtain ⟨es, c, h1⟩ := h.row.map.isMap; rw [k, h1] at e; cases e
  · obtain ⟨cs, wd, h1, _⟩ := h.row.wds; rw [k, h1] at e; injection e with e; injection e with _ e; cases e
  · rw [k, h.blk] at e2; injection e2 with e2; injection e2 with _ e2; cases e2
  · rw [k, h.row.row] at e2; injection e2 with e2; injection e2 with _ e2; cases e2
  · obtain ⟨es, c, h1⟩ := h.row.map.isMap; rw [k, h1] at e2; cases e2
  · obtain ⟨cs, wd, h1, _⟩ := h.row.wds; rw [k, h1] at e2; injection e2 with e2; injection e2 with _ e2; cases e2
theorem rf_ft (h : FS w g rb mb wb N s) (r : RF w q lb N s') (m : Mods (Ft g mb wb) w w') : RF w' q lb N s' := by
  have ap := bo_ap h r
  exact r.mods m (by unfold Ft; omega) (by unfold Ft; omega)
theorem fs_rt (h : FS w g rb mb wb N s) (r : RF w q lb N s') (m : Mods (Rt q lb) w w') : FS w' g rb mb wb N s := by
  have ap := bo_ap h r
  exact FD.mods h m (by unfold Rt; omega) (by unfold Rt; omega) (by unfold Rt; omega) (by unfold Rt; omega)
theorem B5.ap1 (h : B5 w v kd t a b x) (k : FS w g rb mb wb N s) : ¬ Ft g mb wb v := by
  have e : w.heap[v]? = _ := h
  have h1 : v ≠ g := by intro k2; rw [k2, k.blk] at e; injection e with e; injection e with _ e; cases e
  have h2 : v ≠ mb := by intro k2; obtain ⟨es, c, h1⟩ := k.row.map.isMap; rw [k2, h1] at e; cases e
  have h3 : v ≠ wb := by intro k2; obtain ⟨cs, wd, h1, _⟩ := k.row.wds; rw [k2, h1] at e; injection e with e; injection e with _ e; cases e
  unfold Ft
  omega
theorem B5.ap2 (h : B5 w v kd t a b x) (k : RF w q lb N s) : ¬ Rt q lb v := by
  have e : w.heap[v]? = _ := h
  have h1 : v ≠ q := by intro k2; rw [k2, k.blk] at e; injection e with e; injection e with _ e; cases e
  have h2 : v ≠ lb := by intro k2; obtain ⟨cs, h1, _⟩ := k.lst; rw [k2, h1] at e; injection e with e; injection e with _ e; cases e
  unfold Rt
  omega
end
def OP (w : World) (g rb mb wb q lb N : Nat) (s : St) (e : Ending) (w' : World) : Prop :=
  e = .returned (.bool true) ∧ FS w' g rb mb wb N s ∧ RF w' q lb N s ∧ Mods (Qt g mb wb q lb) w w'
set_option maxRecDepth 100000 in
set_option maxHeartbeats 4000000 in
theorem oneC {w : World} {g rb mb wb q lb N : Nat} {s : St} (h : FS w g rb mb wb N s) (r : RF w q lb N s) (hb : ∀ i, s.f i < 100000) (kd t a b : Int) (x : Nat) (hx : x < 4294967296) :
    Calls Try.prog 11 #[.pointer (some ⟨g, 0, none⟩), .pointer (some ⟨q, 0, none⟩), .agg #[.int .i64 kd, .int .i64 t, .int .i64 a, .int .i64 b, .int .u32 x]] w (OP w g rb mb wb q lb N (oneS N s kd t a b x)) := by
  have hb0 : Hid (Below w.heap.size w (w.alloc (.cells #[.int .i64 kd, .int .i64 t, .int .i64 a, .int .i64 b, .int .u32 x] 34))) := (Below.refl _ _).alloc (Nat.le_refl _) _
  have FA : Hid (FS (w.alloc (.cells #[.int .i64 kd, .int .i64 t, .int .i64 a, .int .i64 b, .int .u32 x] 34)) g rb mb wb N s) := FD.below h hb0.out
  have RA : Hid (RF (w.alloc (.cells #[.int .i64 kd, .int .i64 t, .int .i64 a, .int .i64 b, .int .u32 x] 34)) q lb N s) := r.below hb0.out
  have PA : Hid (B5 (w.alloc (.cells #[.int .i64 kd, .int .i64 t, .int .i64 a, .int .i64 b, .int .u32 x] 34)) w.heap.size kd t a b x) := heap_alloc_new _ _
  have HB := Lib.hid hb
  have HX := Lib.hid hx
  clear h r hb hx
  by_cases k0 : kd = 0
  · have e0 : oneS N s kd t a b x = (sAdm N s t a b).2 := by rw [k0]; rfl
    rw [e0]
    clear e0
    have hk0 : (kd == 0) = true := by simp; omega
    have hk1 : (kd == 1) = false := by simp; omega
    have hk2 : (kd == 2) = false := by simp; omega
    have hk3 : (kd == 3) = false := by simp; omega
    have hk4 : (kd == 4) = false := by simp; omega
    have hk5 : (kd == 5) = false := by simp; omega
    have hk6 : (kd == 6) = false := by simp; omega
    clear k0
    obtain ⟨a0, _, _, _, _⟩ := PA.out.c
    have A1 : Hid (∀ w1, FS w1 g rb mb wb N s → Calls Try.prog 20 _ w1 (CS w1 g rb mb wb N (sAdm N s t a b))) := fun w1 F1 => admS F1 t a b
    have A2 : Hid (∀ w2, RF w2 q lb N s → Calls Try.prog 29 _ w2 (CR w2 q lb N (sAdm N s t a b))) := fun w2 R2 => admR R2 t a b
    generalize sAdm N s t a b = rr at A1 A2 ⊢
    obtain ⟨c, s3⟩ := rr
    unfold CS at A1
    unfold CR at A2
    simp only at A1 A2 ⊢
    go_enter Try.func11, Try.ntmps11
    go_wp2_with fail
    generalize w.heap.size = v at PA a0 ⊢
    generalize w.alloc (.cells #[.int .i64 kd, .int .i64 t, .int .i64 a, .int .i64 b, .int .u32 x] 34) = w0 at FA RA PA hb0 a0 ⊢
    have F1 : Hid (FS w0.drew g rb mb wb N s) := FD.heap FA.out rfl
    have R1 : Hid (RF w0.drew q lb N s) := RA.out.heap rfl
    have P1 : Hid (B5 w0.drew v kd t a b x) := PA.out.heap rfl
    have M1 : Hid (Mods (Qt g mb wb q lb) w w0.drew) := Mods.of_below hb0.out.drew
    obtain ⟨_, b1, b2, b3, b4⟩ := PA.out.c
    obtain ⟨_, d1, d2, d3, d4⟩ := P1.out.c
    go_region_held3 (fun W => W.cell? ⟨v, 1, none⟩ = some (.int .i64 t) ∧ W.cell? ⟨v, 2, none⟩ = some (.int .i64 a) ∧ W.cell? ⟨v, 3, none⟩ = some (.int .i64 b)) (go_keep)
      (first
        | (go_at_call 20; refine (A1.out w0.drew F1.out).mono ?_; rintro e w2 ⟨rfl, k2, m2⟩; have F2 := Lib.hid k2; have R2 := Lib.hid (rf_ft F1.out R1.out m2); have P2 := Lib.hid (P1.out.mods m2 (P1.out.ap1 F1.out)); have M2 : Hid (Mods (Qt g mb wb q lb) w w2) := M1.out.trans m2 (fun _ h => .inl (.inl h)); obtain ⟨_, e1, e2, e3, e4⟩ := P2.out.c; clear k2 m2)
        | (go_at_call 29; refine (A2.out w2 R2.out).mono ?_; rintro e w3 ⟨rfl, k3, m3⟩; have R3 := Lib.hid k3; have F3 := Lib.hid (fs_rt F2.out R2.out m3); have P3 := Lib.hid (P2.out.mods m3 (P2.out.ap2 R2.out)); have M3 : Hid (Mods (Qt g mb wb q lb) w w3) := M2.out.trans m3 (fun _ h => .inl (.inr h)); obtain ⟨_, f1, f2, f3, f4⟩ := P3.out.c; clear k3 m3))
    go_wp2_with fail
    go_ret
    exact ⟨rfl, F3.out, R3.out, M3.out⟩
  by_cases k1 : kd = 1
  · have e0 : oneS N s kd t a b x = (sRes N s t a b).2 := by rw [k1]; rfl
    rw [e0]
    clear e0
    have hk0 : (kd == 0) = false := by simp; omega
    have hk1 : (kd == 1) = true := by simp; omega
    have hk2 : (kd == 2) = false := by simp; omega
    have hk3 : (kd == 3) = false := by simp; omega
    have hk4 : (kd == 4) = false := by simp; omega
    have hk5 : (kd == 5) = false := by simp; omega
    have hk6 : (kd == 6) = false := by simp; omega
    clear k0 k1
    obtain ⟨a0, _, _, _, _⟩ := PA.out.c
    have A1 : Hid (∀ w1, FS w1 g rb mb wb N s → Calls Try.prog 21 _ w1 (CS w1 g rb mb wb N (sRes N s t a b))) := fun w1 F1 => resS F1 t a b
    have A2 : Hid (∀ w2, RF w2 q lb N s → Calls Try.prog 30 _ w2 (CR w2 q lb N (sRes N s t a b))) := fun w2 R2 => resR R2 t a b
    generalize sRes N s t a b = rr at A1 A2 ⊢
    obtain ⟨c, s3⟩ := rr
    unfold CS at A1
    unfold CR at A2
    simp only at A1 A2 ⊢
    go_enter Try.func11, Try.ntmps11
    go_wp2_with fail
    generalize w.heap.size = v at PA a0 ⊢
    generalize w.alloc (.cells #[.int .i64 kd, .int .i64 t, .int .i64 a, .int .i64 b, .int .u32 x] 34) = w0 at FA RA PA hb0 a0 ⊢
    have F1 : Hid (FS w0.drew g rb mb wb N s) := FD.heap FA.out rfl
    have R1 : Hid (RF w0.drew q lb N s) := RA.out.heap rfl
    have P1 : Hid (B5 w0.drew v kd t a b x) := PA.out.heap rfl
    have M1 : Hid (Mods (Qt g mb wb q lb) w w0.drew) := Mods.of_below hb0.out.drew
    obtain ⟨_, b1, b2, b3, b4⟩ := PA.out.c
    obtain ⟨_, d1, d2, d3, d4⟩ := P1.out.c
    go_region_held3 (fun W => W.cell? ⟨v, 1, none⟩ = some (.int .i64 t) ∧ W.cell? ⟨v, 2, none⟩ = some (.int .i64 a) ∧ W.cell? ⟨v, 3, none⟩ = some (.int .i64 b)) (go_keep)
      (first
        | (go_at_call 21; refine (A1.out w0.drew F1.out).mono ?_; rintro e w2 ⟨rfl, k2, m2⟩; have F2 := Lib.hid k2; have R2 := Lib.hid (rf_ft F1.out R1.out m2); have P2 := Lib.hid (P1.out.mods m2 (P1.out.ap1 F1.out)); have M2 : Hid (Mods (Qt g mb wb q lb) w w2) := M1.out.trans m2 (fun _ h => .inl (.inl h)); obtain ⟨_, e1, e2, e3, e4⟩ := P2.out.c; clear k2 m2)
        | (go_at_call 30; refine (A2.out w2 R2.out).mono ?_; rintro e w3 ⟨rfl, k3, m3⟩; have R3 := Lib.hid k3; have F3 := Lib.hid (fs_rt F2.out R2.out m3); have P3 := Lib.hid (P2.out.mods m3 (P2.out.ap2 R2.out)); have M3 : Hid (Mods (Qt g mb wb q lb) w w3) := M2.out.trans m3 (fun _ h => .inl (.inr h)); obtain ⟨_, f1, f2, f3, f4⟩ := P3.out.c; clear k3 m3))
    go_wp2_with fail
    go_ret
    exact ⟨rfl, F3.out, R3.out, M3.out⟩
  by_cases k2 : kd = 2
  · have e0 : oneS N s kd t a b x = (sRem s t).2 := by rw [k2]; rfl
    rw [e0]
    clear e0
    have hk0 : (kd == 0) = false := by simp; omega
    have hk1 : (kd == 1) = false := by simp; omega
    have hk2 : (kd == 2) = true := by simp; omega
    have hk3 : (kd == 3) = false := by simp; omega
    have hk4 : (kd == 4) = false := by simp; omega
    have hk5 : (kd == 5) = false := by simp; omega
    have hk6 : (kd == 6) = false := by simp; omega
    clear k0 k1 k2
    obtain ⟨a0, _, _, _, _⟩ := PA.out.c
    have A1 : Hid (∀ w1, FS w1 g rb mb wb N s → Calls Try.prog 22 _ w1 (CS w1 g rb mb wb N (sRem s t))) := fun w1 F1 => remS F1 t
    have A2 : Hid (∀ w2, RF w2 q lb N s → Calls Try.prog 31 _ w2 (CR w2 q lb N (sRem s t))) := fun w2 R2 => remR R2 t
    generalize sRem s t = rr at A1 A2 ⊢
    obtain ⟨c, s3⟩ := rr
    unfold CS at A1
    unfold CR at A2
    simp only at A1 A2 ⊢
    go_enter Try.func11, Try.ntmps11
    go_wp2_with fail
    generalize w.heap.size = v at PA a0 ⊢
    generalize w.alloc (.cells #[.int .i64 kd, .int .i64 t, .int .i64 a, .int .i64 b, .int .u32 x] 34) = w0 at FA RA PA hb0 a0 ⊢
    have F1 : Hid (FS w0.drew g rb mb wb N s) := FD.heap FA.out rfl
    have R1 : Hid (RF w0.drew q lb N s) := RA.out.heap rfl
    have P1 : Hid (B5 w0.drew v kd t a b x) := PA.out.heap rfl
    have M1 : Hid (Mods (Qt g mb wb q lb) w w0.drew) := Mods.of_below hb0.out.drew
    obtain ⟨_, b1, b2, b3, b4⟩ := PA.out.c
    obtain ⟨_, d1, d2, d3, d4⟩ := P1.out.c
    go_region_held3 (fun W => W.cell? ⟨v, 1, none⟩ = some (.int .i64 t)) (go_keep)
      (first
        | (go_at_call 22; refine (A1.out w0.drew F1.out).mono ?_; rintro e w2 ⟨rfl, k2, m2⟩; have F2 := Lib.hid k2; have R2 := Lib.hid (rf_ft F1.out R1.out m2); have P2 := Lib.hid (P1.out.mods m2 (P1.out.ap1 F1.out)); have M2 : Hid (Mods (Qt g mb wb q lb) w w2) := M1.out.trans m2 (fun _ h => .inl (.inl h)); obtain ⟨_, e1, e2, e3, e4⟩ := P2.out.c; clear k2 m2)
        | (go_at_call 31; refine (A2.out w2 R2.out).mono ?_; rintro e w3 ⟨rfl, k3, m3⟩; have R3 := Lib.hid k3; have F3 := Lib.hid (fs_rt F2.out R2.out m3); have P3 := Lib.hid (P2.out.mods m3 (P2.out.ap2 R2.out)); have M3 : Hid (Mods (Qt g mb wb q lb) w w3) := M2.out.trans m3 (fun _ h => .inl (.inr h)); obtain ⟨_, f1, f2, f3, f4⟩ := P3.out.c; clear k3 m3))
    go_wp2_with fail
    go_ret
    exact ⟨rfl, F3.out, R3.out, M3.out⟩
  by_cases k3 : kd = 3
  · have e0 : oneS N s kd t a b x = (sTak N s t).2 := by rw [k3]; rfl
    rw [e0]
    clear e0
    have hk0 : (kd == 0) = false := by simp; omega
    have hk1 : (kd == 1) = false := by simp; omega
    have hk2 : (kd == 2) = false := by simp; omega
    have hk3 : (kd == 3) = true := by simp; omega
    have hk4 : (kd == 4) = false := by simp; omega
    have hk5 : (kd == 5) = false := by simp; omega
    have hk6 : (kd == 6) = false := by simp; omega
    clear k0 k1 k2 k3
    go_enter Try.func11, Try.ntmps11
    have T1 : Hid (∀ w1, FS w1 g rb mb wb N s → _) := fun w1 k => takS k t
    have T2 : Hid (∀ w1, RF w1 q lb N s → _) := fun w1 k => takR k t
    unfold TS at T1
    unfold TR at T2
    generalize xTak N s t = X at *
    generalize sTak N s t = r at *
    obtain ⟨c, s3⟩ := r
    simp only at T1 T2 ⊢
    obtain ⟨a0, b1, b2, b3, b4⟩ := PA.out.c
    go_wp2_with fail
    generalize w.heap.size = v at PA a0 b1 b2 b3 b4 ⊢
    generalize w.alloc (.cells #[.int .i64 kd, .int .i64 t, .int .i64 a, .int .i64 b, .int .u32 x] 34) = w0 at FA RA PA hb0 a0 b1 b2 b3 b4 ⊢
    refine (T1.out w0 FA.out).mono ?_
    rintro e w2 ⟨rfl, k2, m2⟩
    have F2 := Lib.hid k2
    have R2 := Lib.hid (rf_ft FA.out RA.out m2)
    have P2 := Lib.hid (PA.out.mods m2 (PA.out.ap1 FA.out))
    have M2 : Hid (Mods (Qt g mb wb q lb) w w2) := (Mods.of_below hb0.out (S := Qt g mb wb q lb)).trans m2 (fun _ h => .inl (.inl h))
    obtain ⟨_, e1, e2, e3, e4⟩ := P2.out.c
    clear k2 m2
    go_wp2_with fail
    refine (T2.out w2 R2.out).mono ?_
    rintro e w3 ⟨rfl, k3, m3⟩
    have R3 := Lib.hid k3
    have F3 := Lib.hid (fs_rt F2.out R2.out m3)
    have M3 : Hid (Mods (Qt g mb wb q lb) w w3) := M2.out.trans m3 (fun _ h => .inl (.inr h))
    clear k3 m3
    go_wp2_with fail
    go_ret
    exact ⟨rfl, F3.out, R3.out, M3.out⟩
  by_cases k4 : kd = 4
  · have e0 : oneS N s kd t a b x = (sClm N s t x).2 := by rw [k4]; rfl
    rw [e0]
    clear e0
    have hk0 : (kd == 0) = false := by simp; omega
    have hk1 : (kd == 1) = false := by simp; omega
    have hk2 : (kd == 2) = false := by simp; omega
    have hk3 : (kd == 3) = false := by simp; omega
    have hk4 : (kd == 4) = true := by simp; omega
    have hk5 : (kd == 5) = false := by simp; omega
    have hk6 : (kd == 6) = false := by simp; omega
    clear k0 k1 k2 k3 k4
    obtain ⟨a0, _, _, _, _⟩ := PA.out.c
    have A1 : Hid (∀ w1, FS w1 g rb mb wb N s → Calls Try.prog 23 _ w1 (CS w1 g rb mb wb N (sClm N s t x))) := fun w1 F1 => clmS F1 t x HX.out
    have A2 : Hid (∀ w2, RF w2 q lb N s → Calls Try.prog 33 _ w2 (CR w2 q lb N (sClm N s t x))) := fun w2 R2 => clmR R2 HB.out t x HX.out
    generalize sClm N s t x = rr at A1 A2 ⊢
    obtain ⟨c, s3⟩ := rr
    unfold CS at A1
    unfold CR at A2
    simp only at A1 A2 ⊢
    go_enter Try.func11, Try.ntmps11
    go_wp2_with fail
    generalize w.heap.size = v at PA a0 ⊢
    generalize w.alloc (.cells #[.int .i64 kd, .int .i64 t, .int .i64 a, .int .i64 b, .int .u32 x] 34) = w0 at FA RA PA hb0 a0 ⊢
    have F1 : Hid (FS w0.drew g rb mb wb N s) := FD.heap FA.out rfl
    have R1 : Hid (RF w0.drew q lb N s) := RA.out.heap rfl
    have P1 : Hid (B5 w0.drew v kd t a b x) := PA.out.heap rfl
    have M1 : Hid (Mods (Qt g mb wb q lb) w w0.drew) := Mods.of_below hb0.out.drew
    obtain ⟨_, b1, b2, b3, b4⟩ := PA.out.c
    obtain ⟨_, d1, d2, d3, d4⟩ := P1.out.c
    go_region_held3 (fun W => W.cell? ⟨v, 1, none⟩ = some (.int .i64 t) ∧ W.cell? ⟨v, 4, none⟩ = some (.int .u32 x)) (go_keep)
      (first
        | (go_at_call 23; refine (A1.out w0.drew F1.out).mono ?_; rintro e w2 ⟨rfl, k2, m2⟩; have F2 := Lib.hid k2; have R2 := Lib.hid (rf_ft F1.out R1.out m2); have P2 := Lib.hid (P1.out.mods m2 (P1.out.ap1 F1.out)); have M2 : Hid (Mods (Qt g mb wb q lb) w w2) := M1.out.trans m2 (fun _ h => .inl (.inl h)); obtain ⟨_, e1, e2, e3, e4⟩ := P2.out.c; clear k2 m2)
        | (go_at_call 33; refine (A2.out w2 R2.out).mono ?_; rintro e w3 ⟨rfl, k3, m3⟩; have R3 := Lib.hid k3; have F3 := Lib.hid (fs_rt F2.out R2.out m3); have P3 := Lib.hid (P2.out.mods m3 (P2.out.ap2 R2.out)); have M3 : Hid (Mods (Qt g mb wb q lb) w w3) := M2.out.trans m3 (fun _ h => .inl (.inr h)); obtain ⟨_, f1, f2, f3, f4⟩ := P3.out.c; clear k3 m3))
    go_wp2_with fail
    go_ret
    exact ⟨rfl, F3.out, R3.out, M3.out⟩
  by_cases k5 : kd = 5
  · have e0 : oneS N s kd t a b x = (sHld N s x).2 := by rw [k5]; rfl
    rw [e0]
    clear e0
    have hk0 : (kd == 0) = false := by simp; omega
    have hk1 : (kd == 1) = false := by simp; omega
    have hk2 : (kd == 2) = false := by simp; omega
    have hk3 : (kd == 3) = false := by simp; omega
    have hk4 : (kd == 4) = false := by simp; omega
    have hk5 : (kd == 5) = true := by simp; omega
    have hk6 : (kd == 6) = false := by simp; omega
    clear k0 k1 k2 k3 k4 k5
    obtain ⟨a0, _, _, _, _⟩ := PA.out.c
    have A1 : Hid (∀ w1, FS w1 g rb mb wb N s → Calls Try.prog 24 _ w1 (CS w1 g rb mb wb N (sHld N s x))) := fun w1 F1 => hldS F1 x HX.out
    have A2 : Hid (∀ w2, RF w2 q lb N s → Calls Try.prog 34 _ w2 (CR w2 q lb N (sHld N s x))) := fun w2 R2 => hldR R2 HB.out x HX.out
    generalize sHld N s x = rr at A1 A2 ⊢
    obtain ⟨c, s3⟩ := rr
    unfold CS at A1
    unfold CR at A2
    simp only at A1 A2 ⊢
    go_enter Try.func11, Try.ntmps11
    go_wp2_with fail
    generalize w.heap.size = v at PA a0 ⊢
    generalize w.alloc (.cells #[.int .i64 kd, .int .i64 t, .int .i64 a, .int .i64 b, .int .u32 x] 34) = w0 at FA RA PA hb0 a0 ⊢
    have F1 : Hid (FS w0.drew g rb mb wb N s) := FD.heap FA.out rfl
    have R1 : Hid (RF w0.drew q lb N s) := RA.out.heap rfl
    have P1 : Hid (B5 w0.drew v kd t a b x) := PA.out.heap rfl
    have M1 : Hid (Mods (Qt g mb wb q lb) w w0.drew) := Mods.of_below hb0.out.drew
    obtain ⟨_, b1, b2, b3, b4⟩ := PA.out.c
    obtain ⟨_, d1, d2, d3, d4⟩ := P1.out.c
    go_region_held3 (fun W => W.cell? ⟨v, 4, none⟩ = some (.int .u32 x)) (go_keep)
      (first
        | (go_at_call 24; refine (A1.out w0.drew F1.out).mono ?_; rintro e w2 ⟨rfl, k2, m2⟩; have F2 := Lib.hid k2; have R2 := Lib.hid (rf_ft F1.out R1.out m2); have P2 := Lib.hid (P1.out.mods m2 (P1.out.ap1 F1.out)); have M2 : Hid (Mods (Qt g mb wb q lb) w w2) := M1.out.trans m2 (fun _ h => .inl (.inl h)); obtain ⟨_, e1, e2, e3, e4⟩ := P2.out.c; clear k2 m2)
        | (go_at_call 34; refine (A2.out w2 R2.out).mono ?_; rintro e w3 ⟨rfl, k3, m3⟩; have R3 := Lib.hid k3; have F3 := Lib.hid (fs_rt F2.out R2.out m3); have P3 := Lib.hid (P2.out.mods m3 (P2.out.ap2 R2.out)); have M3 : Hid (Mods (Qt g mb wb q lb) w w3) := M2.out.trans m3 (fun _ h => .inl (.inr h)); obtain ⟨_, f1, f2, f3, f4⟩ := P3.out.c; clear k3 m3))
    go_wp2_with fail
    go_ret
    exact ⟨rfl, F3.out, R3.out, M3.out⟩
  by_cases k6 : kd = 6
  · have e0 : oneS N s kd t a b x = (sDrp N s t x).2 := by rw [k6]; rfl
    rw [e0]
    clear e0
    have hk0 : (kd == 0) = false := by simp; omega
    have hk1 : (kd == 1) = false := by simp; omega
    have hk2 : (kd == 2) = false := by simp; omega
    have hk3 : (kd == 3) = false := by simp; omega
    have hk4 : (kd == 4) = false := by simp; omega
    have hk5 : (kd == 5) = false := by simp; omega
    have hk6 : (kd == 6) = true := by simp; omega
    clear k0 k1 k2 k3 k4 k5 k6
    obtain ⟨a0, _, _, _, _⟩ := PA.out.c
    have A1 : Hid (∀ w1, FS w1 g rb mb wb N s → Calls Try.prog 25 _ w1 (CS w1 g rb mb wb N (sDrp N s t x))) := fun w1 F1 => drpS F1 t x HX.out
    have A2 : Hid (∀ w2, RF w2 q lb N s → Calls Try.prog 35 _ w2 (CR w2 q lb N (sDrp N s t x))) := fun w2 R2 => drpR R2 t x HX.out
    generalize sDrp N s t x = rr at A1 A2 ⊢
    obtain ⟨c, s3⟩ := rr
    unfold CS at A1
    unfold CR at A2
    simp only at A1 A2 ⊢
    go_enter Try.func11, Try.ntmps11
    go_wp2_with fail
    generalize w.heap.size = v at PA a0 ⊢
    generalize w.alloc (.cells #[.int .i64 kd, .int .i64 t, .int .i64 a, .int .i64 b, .int .u32 x] 34) = w0 at FA RA PA hb0 a0 ⊢
    have F1 : Hid (FS w0.drew g rb mb wb N s) := FD.heap FA.out rfl
    have R1 : Hid (RF w0.drew q lb N s) := RA.out.heap rfl
    have P1 : Hid (B5 w0.drew v kd t a b x) := PA.out.heap rfl
    have M1 : Hid (Mods (Qt g mb wb q lb) w w0.drew) := Mods.of_below hb0.out.drew
    obtain ⟨_, b1, b2, b3, b4⟩ := PA.out.c
    obtain ⟨_, d1, d2, d3, d4⟩ := P1.out.c
    go_region_held3 (fun W => W.cell? ⟨v, 1, none⟩ = some (.int .i64 t) ∧ W.cell? ⟨v, 4, none⟩ = some (.int .u32 x)) (go_keep)
      (first
        | (go_at_call 25; refine (A1.out w0.drew F1.out).mono ?_; rintro e w2 ⟨rfl, k2, m2⟩; have F2 := Lib.hid k2; have R2 := Lib.hid (rf_ft F1.out R1.out m2); have P2 := Lib.hid (P1.out.mods m2 (P1.out.ap1 F1.out)); have M2 : Hid (Mods (Qt g mb wb q lb) w w2) := M1.out.trans m2 (fun _ h => .inl (.inl h)); obtain ⟨_, e1, e2, e3, e4⟩ := P2.out.c; clear k2 m2)
        | (go_at_call 35; refine (A2.out w2 R2.out).mono ?_; rintro e w3 ⟨rfl, k3, m3⟩; have R3 := Lib.hid k3; have F3 := Lib.hid (fs_rt F2.out R2.out m3); have P3 := Lib.hid (P2.out.mods m3 (P2.out.ap2 R2.out)); have M3 : Hid (Mods (Qt g mb wb q lb) w w3) := M2.out.trans m3 (fun _ h => .inl (.inr h)); obtain ⟨_, f1, f2, f3, f4⟩ := P3.out.c; clear k3 m3))
    go_wp2_with fail
    go_ret
    exact ⟨rfl, F3.out, R3.out, M3.out⟩
  have e0 : oneS N s kd t a b x = s := by
    unfold oneS
    rw [if_neg k0, if_neg k1, if_neg k2, if_neg k3, if_neg k4, if_neg k5, if_neg k6]
  rw [e0]
  clear e0
  have hk0 : (kd == 0) = false := by simp; omega
  have hk1 : (kd == 1) = false := by simp; omega
  have hk2 : (kd == 2) = false := by simp; omega
  have hk3 : (kd == 3) = false := by simp; omega
  have hk4 : (kd == 4) = false := by simp; omega
  have hk5 : (kd == 5) = false := by simp; omega
  have hk6 : (kd == 6) = false := by simp; omega
  clear k0 k1 k2 k3 k4 k5 k6
  obtain ⟨a0, _, _, _, _⟩ := PA.out.c
  go_enter Try.func11, Try.ntmps11
  go_wp2_with fail
  go_ret
  exact ⟨rfl, FA.out, RA.out, Mods.of_below hb0.out⟩
end Go.Proofs.Ytjgkochbfjlinaa
