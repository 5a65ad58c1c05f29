/-
  For every register and all 64 bytes the law SuperRegBack of package casematelaw19 returns true, and they read afterwards as before: registers go there and back, in one way alone, but the one of noughts, which is blank. Condition: none.
-/
import Derived.Test.YtplffbpnjnbolaaSuG
namespace Go.Proofs.Ytplffbpnjnbolaa.superRegBack
open Go.ChangeShapes Go.WideShapes Go.ChangeAt Go.RowKit
theorem rb_zero {bs : List Int} (h : gRe bs = 0) : (gR bs).k ≤ 1 ∧ gW (gR bs) = bs ∧ gRv bs = gR bs := by
  have hv : gRv bs = gR bs := by unfold gRv; rw [if_pos h]
  unfold gRe at h
  by_cases h0 : bs = zs 64
  · rw [if_pos h0] at h; exact absurd h (by decide)
  · rw [if_neg h0] at h
    by_cases h1 : (gR bs).k ≤ 1 ∧ gW (gR bs) = bs
    · exact ⟨h1.1, h1.2, hv⟩
    · rw [if_neg h1] at h; exact absurd h (by decide)
theorem eqG_iff (R S : Rg) : (R.z = S.z ∧ R.g = S.g ∧ R.e = S.e ∧ R.k = S.k) ↔ R = S := by
  refine ⟨fun ⟨a, b, c, d⟩ => ?_, fun h => by subst h; exact ⟨rfl, rfl, rfl, rfl⟩⟩
  cases R; cases S; simp_all
set_option maxRecDepth 100000 in
set_option maxHeartbeats 8000000 in
theorem walk_not (R : Rg) (hR : R.ok) (bs : List Int) (hb : Byt bs) (lb : bs.length = 64) (w : World) (hk : ¬ R.k ≤ 1) :
    Calls Try.prog 6 #[.agg (gcells R), .agg (bcells bs)] w fun e w' => e = .returned (.bool true) ∧ Below w.heap.size w w' := by
  have hz46 := z46
  have hz47 := z47
  have HL := Lib.hid hR.2.2.2.2
  have WG : Hid (∀ W, Calls Try.prog 18 #[.agg (gcells R)] W fun e w' => e = .returned (.tuple #[.agg (bcells (zs 64)), .int .i64 3]) ∧ Below W.heap.size W w') := fun W => by
    have := writeG R hR W
    unfold WriteGP gE gV at this
    rw [if_neg hk, if_neg hk] at this
    exact this
  have RB : Hid (∀ W, Calls Try.prog 21 #[.agg (bcells bs)] W fun e w' => e = .returned (.tuple #[.agg (gcells (gRv bs)), .int .i64 (gRe bs)]) ∧ Below W.heap.size W w') := fun W => readG bs hb lb W
  have WB : Hid (∀ W, Calls Try.prog 18 #[.agg (gcells (gRv bs))] W fun e w' => e = .returned (.tuple #[.agg (bcells (gV (gRv bs))), .int .i64 (gE (gRv bs))]) ∧ Below W.heap.size W w') := fun W => writeG _ (gRv_ok hb lb) W
  have BV : Hid (Byt (gV (gRv bs)) ∧ (gV (gRv bs)).length = 64) := ⟨gV_byt (gRv_ok hb lb).2.2.2.1, gV_len (gRv_ok hb lb).2.2.2.2⟩
  have IR := Lib.hid (i46 HL.out)
  have IB := Lib.hid (i47 lb)
  have IV := Lib.hid (i47 BV.out.2)
  have OV := Lib.hid (one_cells (gV (gRv bs)))
  have ZV := Lib.hid (bcells_sz (show (zs 64).length = (gV (gRv bs)).length by rw [zs_len, BV.out.2]))
  have LQ := Lib.hid (gRv_ok hb lb).2.2.2.2
  have IQ := Lib.hid (i46 LQ.out)
  have OQ := Lib.hid (one_gcells (gRv bs))
  have ZQ : Hid ((gcells G0).size = (gcells (gRv bs)).size) := by show _ = _; rw [gcells_size (zs_len 32), gcells_size LQ.out]
  have I1 := Lib.hid (i47 (xs := zs 64) (zs_len 64))
  have O1 := Lib.hid (one_cells (zs 64))
  have Z1 := Lib.hid (bcells_sz (show (zs 64).length = (zs 64).length from (zs_len 64).trans ((zs_len 64)).symm))
  have EZ : Hid (gRe bs = 0 → gE (gRv bs) = 0 ∧ ∀ W, (Op.equalIn 10000 47 (.agg (bcells (gV (gRv bs)))) (.agg (bcells bs))).run Try.prog W = .ok true W) := fun h => by
    obtain ⟨h1, h2, h3⟩ := rb_zero h
    refine ⟨by rw [h3]; exact if_pos h1, fun W => ?_⟩
    rw [eq47 _ _ BV.out.1 hb BV.out.2 lb W, decide_eq_true]
    rw [h3]
    unfold gV
    rw [if_pos h1, h2]
  have HK : Hid (decide (R.k < 2) = false) := by show _ = _; exact decide_eq_false (by omega)
  clear hk
  have AL := Lib.hid alive19
  generalize bcells (gV (gRv bs)) = CV at *
  generalize gcells (gRv bs) = CQ at *
  generalize hCR : gcells R = CR at *
  generalize bcells bs = CB at *
  generalize gcells G0 = ZG at *
  generalize bcells (zs 64) = C1 at *
  try generalize bcells (zs 64) = Z6 at *
  generalize gE (gRv bs) = EV at *
  generalize gRe bs = EB at *
  obtain ⟨W0, hW0⟩ : ∃ W0, W0 = (w.alloc (.cells CR 46)).alloc (.cells CB 47) := ⟨_, rfl⟩
  have B0 : Hid (Below w.heap.size w W0) := by rw [hW0]; exact ((Below.refl _ _).alloc (Nat.le_refl _) _).alloc (by simp) _
  have GR : Hid (W0.heap[w.heap.size]? = some (.cells CR 46 (0, 0))) := by show _ = _; rw [hW0, Below.heap_alloc _ _ _ (by simp)]; exact heap_alloc_new w _
  have GB : Hid (W0.heap[w.heap.size + 1]? = some (.cells CB 47 (0, 0))) := by show _ = _; rw [hW0]; exact heap_alloc2_new w _ _
  have HW0 := Lib.hid hW0
  clear hW0 hR hb lb
  go_enter Try.func6, Try.ntmps6
  go_wp2_with (refine wpList_load_row rfl 46 (.tmp 2) rfl w.heap.size rfl 46 CR (0, 0) _ (by rw [← HW0.out]; exact GR.out) Try.underlying46 rfl IR.out ?_)
  rw [← HW0.out]
  refine (WG.out _).mono ?_
  rintro e w1 ⟨rfl, hb⟩
  have B0 := Lib.hid (B0.out.trans (hb.mono B0.out.size))
  have GR := Lib.hid ((hb.block _ (blk_lt GR.out)).trans GR.out)
  have GB := Lib.hid ((hb.block _ (blk_lt GB.out)).trans GB.out)
  clear hb
  have Av1 := Lib.hid (heap_alloc_new w1 (.cells C1 47))
  have Ev1 := Lib.hid (alloc_setRowT w1 C1 C1 47 _ rfl)
  have Q1 := Lib.hid (heap_alloc_new w1 (.cells C1 47))
  have halv1 : Below w1.heap.size w1 (w1.alloc (.cells C1 47)) := (Below.refl _ _).alloc (Nat.le_refl _) _
  have B0 := Lib.hid (B0.out.trans (halv1.mono B0.out.size))
  have GR := Lib.hid ((halv1.block _ (blk_lt GR.out)).trans GR.out)
  have GB := Lib.hid ((halv1.block _ (blk_lt GB.out)).trans GB.out)
  clear halv1
  go_wp2_with (first
    | (refine wpList_store_row rfl 47 (.tmp 5) (.tmp 16) rfl w1.heap.size C1 rfl rfl 47 C1 Av1.out I1.out rfl O1.out ?_; rw [Ev1.out])
    | (refine wpList_load_row rfl 47 (.tmp 3) rfl (w.heap.size + 1) rfl 47 CB (0, 0) _ GB.out Try.underlying47 rfl IB.out ?_))
  clear Av1 Ev1
  generalize w1.alloc (.cells C1 47) = v1 at *
  generalize w1.heap.size = gv1 at *
  refine (RB.out _).mono ?_
  rintro e v1r ⟨rfl, hb⟩
  have B0 := Lib.hid (B0.out.trans (hb.mono B0.out.size))
  have GR := Lib.hid ((hb.block _ (blk_lt GR.out)).trans GR.out)
  have GB := Lib.hid ((hb.block _ (blk_lt GB.out)).trans GB.out)
  have Q1 := Lib.hid ((hb.block _ (blk_lt Q1.out)).trans Q1.out)
  clear hb
  have Av3 := Lib.hid (heap_alloc_new v1r (.cells ZG 46))
  have Ev3 := Lib.hid (alloc_setRowT v1r ZG CQ 46 _ rfl)
  have QQ := Lib.hid (heap_alloc_new v1r (.cells CQ 46))
  have halv3 : Below v1r.heap.size v1r (v1r.alloc (.cells CQ 46)) := (Below.refl _ _).alloc (Nat.le_refl _) _
  have B0 := Lib.hid (B0.out.trans (halv3.mono B0.out.size))
  have GR := Lib.hid ((halv3.block _ (blk_lt GR.out)).trans GR.out)
  have GB := Lib.hid ((halv3.block _ (blk_lt GB.out)).trans GB.out)
  have Q1 := Lib.hid ((halv3.block _ (blk_lt Q1.out)).trans Q1.out)
  clear halv3
  go_wp2_with (first
    | (refine wpList_store_row rfl 46 (.tmp 9) (.tmp 48) rfl v1r.heap.size CQ rfl rfl 46 ZG Av3.out IQ.out ZQ.out OQ.out ?_; rw [Ev3.out])
    | (refine wpList_load_row rfl 46 (.tmp 9) rfl v1r.heap.size rfl 46 CQ (0, 0) _ (heap_alloc_new _ _) Try.underlying46 rfl IQ.out ?_))
  clear Av3 Ev3
  generalize v1r.alloc (.cells CQ 46) = v3 at *
  generalize v1r.heap.size = gv3 at *
  refine (WB.out _).mono ?_
  rintro e w9 ⟨rfl, hb⟩
  have B0 := Lib.hid (B0.out.trans (hb.mono B0.out.size))
  have GR := Lib.hid ((hb.block _ (blk_lt GR.out)).trans GR.out)
  have GB := Lib.hid ((hb.block _ (blk_lt GB.out)).trans GB.out)
  have Q1 := Lib.hid ((hb.block _ (blk_lt Q1.out)).trans Q1.out)
  have QQ := Lib.hid ((hb.block _ (blk_lt QQ.out)).trans QQ.out)
  clear hb
  have Av4 := Lib.hid (heap_alloc_new w9 (.cells C1 47))
  have Ev4 := Lib.hid (alloc_setRowT w9 C1 CV 47 _ rfl)
  have QV := Lib.hid (heap_alloc_new w9 (.cells CV 47))
  have halv4 : Below w9.heap.size w9 (w9.alloc (.cells CV 47)) := (Below.refl _ _).alloc (Nat.le_refl _) _
  have B0 := Lib.hid (B0.out.trans (halv4.mono B0.out.size))
  have GR := Lib.hid ((halv4.block _ (blk_lt GR.out)).trans GR.out)
  have GB := Lib.hid ((halv4.block _ (blk_lt GB.out)).trans GB.out)
  have Q1 := Lib.hid ((halv4.block _ (blk_lt Q1.out)).trans Q1.out)
  have QQ := Lib.hid ((halv4.block _ (blk_lt QQ.out)).trans QQ.out)
  clear halv4
  go_wp2_with (first
    | (refine wpList_store_row rfl 47 (.tmp 11) (.tmp 53) rfl w9.heap.size CV rfl rfl 47 C1 Av4.out IV.out ZV.out OV.out ?_; rw [Ev4.out]))
  clear Av4 Ev4
  generalize w9.alloc (.cells CV 47) = v4 at *
  generalize w9.heap.size = gv4 at *
  by_cases hEB : EB = 0
  · subst hEB
    obtain ⟨e1, e2⟩ := EZ.out (by first | rfl | trivial)
    subst e1
    have EQV := Lib.hid e2
    clear e2 EZ
    refine (AL.out _).mono ?_
    rintro e w6 ⟨rfl, hb⟩
    have B0 := Lib.hid (B0.out.trans (hb.mono B0.out.size))
    have GR := Lib.hid ((hb.block _ (blk_lt GR.out)).trans GR.out)
    have GB := Lib.hid ((hb.block _ (blk_lt GB.out)).trans GB.out)
    have QV := Lib.hid ((hb.block _ (blk_lt QV.out)).trans QV.out)
    clear hb
    have ck := (gcell (R := R) HL.out (by rw [hCR]; exact GR.out)).2.2
    have hk2 := HK.out
    have eqv := EQV.out
    go_wp2_with (first
      | (refine wpList_load_met' rfl 47 (.tmp 11) rfl gv4 rfl 47 CV (0, 0) _ QV.out Try.underlying47 ⟨_, _, rfl⟩ IV.out ?_)
      | (refine wpList_load_met' rfl 47 (.tmp 3) rfl (w.heap.size + 1) rfl 47 CB (0, 0) _ GB.out Try.underlying47 ⟨_, _, rfl⟩ IB.out ?_))
    go_ret
    exact ⟨rfl, B0.out⟩
  · have HEB : Hid ((EB != 0) = true) := by show _ = _; simpa using hEB
    clear EZ
    refine (AL.out _).mono ?_
    rintro e w6 ⟨rfl, hb⟩
    have B0 := Lib.hid (B0.out.trans (hb.mono B0.out.size))
    have GR := Lib.hid ((hb.block _ (blk_lt GR.out)).trans GR.out)
    have GB := Lib.hid ((hb.block _ (blk_lt GB.out)).trans GB.out)
    have QV := Lib.hid ((hb.block _ (blk_lt QV.out)).trans QV.out)
    clear hb
    have ck := (gcell (R := R) HL.out (by rw [hCR]; exact GR.out)).2.2
    have hk2 := HK.out
    have heb := HEB.out
    go_wp2_with (first
      | (refine wpList_load_met' rfl 47 (.tmp 11) rfl gv4 rfl 47 CV (0, 0) _ QV.out Try.underlying47 ⟨_, _, rfl⟩ IV.out ?_)
      | (refine wpList_load_met' rfl 47 (.tmp 3) rfl (w.heap.size + 1) rfl 47 CB (0, 0) _ GB.out Try.underlying47 ⟨_, _, rfl⟩ IB.out ?_))
    go_ret
    exact ⟨rfl, B0.out⟩
set_option maxRecDepth 100000 in
set_option maxHeartbeats 8000000 in
theorem walk_fit (R : Rg) (hR : R.ok) (bs : List Int) (hb : Byt bs) (lb : bs.length = 64) (w : World) (hk : R.k ≤ 1) (hne : R ≠ G0) :
    Calls Try.prog 6 #[.agg (gcells R), .agg (bcells bs)] w fun e w' => e = .returned (.bool true) ∧ Below w.heap.size w w' := by
  have hz46 := z46
  have hz47 := z47
  have HL := Lib.hid hR.2.2.2.2
  have WG : Hid (∀ W, Calls Try.prog 18 #[.agg (gcells R)] W fun e w' => e = .returned (.tuple #[.agg (bcells (gW R)), .int .i64 0]) ∧ Below W.heap.size W w') := fun W => by
    have := writeG R hR W
    unfold WriteGP gE gV at this
    rw [if_pos hk, if_pos hk] at this
    exact this
  have RB : Hid (∀ W, Calls Try.prog 21 #[.agg (bcells bs)] W fun e w' => e = .returned (.tuple #[.agg (gcells (gRv bs)), .int .i64 (gRe bs)]) ∧ Below W.heap.size W w') := fun W => readG bs hb lb W
  have WB : Hid (∀ W, Calls Try.prog 18 #[.agg (gcells (gRv bs))] W fun e w' => e = .returned (.tuple #[.agg (bcells (gV (gRv bs))), .int .i64 (gE (gRv bs))]) ∧ Below W.heap.size W w') := fun W => writeG _ (gRv_ok hb lb) W
  have BV : Hid (Byt (gV (gRv bs)) ∧ (gV (gRv bs)).length = 64) := ⟨gV_byt (gRv_ok hb lb).2.2.2.1, gV_len (gRv_ok hb lb).2.2.2.2⟩
  have IR := Lib.hid (i46 HL.out)
  have IB := Lib.hid (i47 lb)
  have IV := Lib.hid (i47 BV.out.2)
  have OV := Lib.hid (one_cells (gV (gRv bs)))
  have ZV := Lib.hid (bcells_sz (show (zs 64).length = (gV (gRv bs)).length by rw [zs_len, BV.out.2]))
  have LQ := Lib.hid (gRv_ok hb lb).2.2.2.2
  have IQ := Lib.hid (i46 LQ.out)
  have OQ := Lib.hid (one_gcells (gRv bs))
  have ZQ : Hid ((gcells G0).size = (gcells (gRv bs)).size) := by show _ = _; rw [gcells_size (zs_len 32), gcells_size LQ.out]
  have I1 := Lib.hid (i47 (xs := gW R) (gW_len HL.out))
  have O1 := Lib.hid (one_cells (gW R))
  have Z1 := Lib.hid (bcells_sz (show (zs 64).length = (gW R).length from (zs_len 64).trans ((gW_len HL.out)).symm))
  have EZ : Hid (gRe bs = 0 → gE (gRv bs) = 0 ∧ ∀ W, (Op.equalIn 10000 47 (.agg (bcells (gV (gRv bs)))) (.agg (bcells bs))).run Try.prog W = .ok true W) := fun h => by
    obtain ⟨h1, h2, h3⟩ := rb_zero h
    refine ⟨by rw [h3]; exact if_pos h1, fun W => ?_⟩
    rw [eq47 _ _ BV.out.1 hb BV.out.2 lb W, decide_eq_true]
    rw [h3]
    unfold gV
    rw [if_pos h1, h2]
  have HK : Hid (R.k < 2) := by show _ < _; omega
  have RR : Hid (∀ W, Calls Try.prog 21 #[.agg (bcells (gW R))] W fun e w' => e = .returned (.tuple #[.agg (gcells R), .int .i64 0]) ∧ Below W.heap.size W w') := fun W => by
    have := readG (gW R) (gW_byt hR.2.2.2.1) (gW_len hR.2.2.2.2) W
    unfold ReadGP at this
    rw [gRe_gW hR hk hne, gRv_gW hR hk] at this
    exact this
  have E0 : Hid (∀ W, (Op.equalIn 10000 46 (.agg (gcells R)) (.agg (gcells G0))).run Try.prog W = .ok false W) := fun W => by
    rw [eq46 R G0 hR.2.2.2.1 (zs_byt _) HL.out (zs_len _) W, decide_eq_false (fun h => hne ((eqG_iff R G0).1 h))]
  have E1 : Hid (∀ W, (Op.equalIn 10000 46 (.agg (gcells R)) (.agg (gcells R))).run Try.prog W = .ok true W) := fun W => by
    rw [eq46 R R hR.2.2.2.1 hR.2.2.2.1 HL.out HL.out W, decide_eq_true ⟨rfl, rfl, rfl, rfl⟩]
  have OR := Lib.hid (one_gcells R)
  have ZR : Hid ((gcells G0).size = (gcells R).size) := by show _ = _; rw [gcells_size (zs_len 32), gcells_size HL.out]
  have BG := Lib.hid bld46
  have eq0 := E0.out
  have eq1 := E1.out
  clear hk hne E0 E1
  have AL := Lib.hid alive19
  generalize bcells (gV (gRv bs)) = CV at *
  generalize gcells (gRv bs) = CQ at *
  generalize hCR : gcells R = CR at *
  generalize bcells bs = CB at *
  generalize gcells G0 = ZG at *
  generalize bcells (gW R) = C1 at *
  try generalize bcells (zs 64) = Z6 at *
  generalize gE (gRv bs) = EV at *
  generalize gRe bs = EB at *
  obtain ⟨W0, hW0⟩ : ∃ W0, W0 = (w.alloc (.cells CR 46)).alloc (.cells CB 47) := ⟨_, rfl⟩
  have B0 : Hid (Below w.heap.size w W0) := by rw [hW0]; exact ((Below.refl _ _).alloc (Nat.le_refl _) _).alloc (by simp) _
  have GR : Hid (W0.heap[w.heap.size]? = some (.cells CR 46 (0, 0))) := by show _ = _; rw [hW0, Below.heap_alloc _ _ _ (by simp)]; exact heap_alloc_new w _
  have GB : Hid (W0.heap[w.heap.size + 1]? = some (.cells CB 47 (0, 0))) := by show _ = _; rw [hW0]; exact heap_alloc2_new w _ _
  have HW0 := Lib.hid hW0
  clear hW0 hR hb lb
  go_enter Try.func6, Try.ntmps6
  go_wp2_with (refine wpList_load_row rfl 46 (.tmp 2) rfl w.heap.size rfl 46 CR (0, 0) _ (by rw [← HW0.out]; exact GR.out) Try.underlying46 rfl IR.out ?_)
  rw [← HW0.out]
  refine (WG.out _).mono ?_
  rintro e w1 ⟨rfl, hb⟩
  have B0 := Lib.hid (B0.out.trans (hb.mono B0.out.size))
  have GR := Lib.hid ((hb.block _ (blk_lt GR.out)).trans GR.out)
  have GB := Lib.hid ((hb.block _ (blk_lt GB.out)).trans GB.out)
  clear hb
  have Av1 := Lib.hid (heap_alloc_new w1 (.cells Z6 47))
  have Ev1 := Lib.hid (alloc_setRowT w1 Z6 C1 47 _ rfl)
  have Q1 := Lib.hid (heap_alloc_new w1 (.cells C1 47))
  have halv1 : Below w1.heap.size w1 (w1.alloc (.cells C1 47)) := (Below.refl _ _).alloc (Nat.le_refl _) _
  have B0 := Lib.hid (B0.out.trans (halv1.mono B0.out.size))
  have GR := Lib.hid ((halv1.block _ (blk_lt GR.out)).trans GR.out)
  have GB := Lib.hid ((halv1.block _ (blk_lt GB.out)).trans GB.out)
  clear halv1
  go_wp2_with (first
    | (refine wpList_store_row rfl 47 (.tmp 5) (.tmp 16) rfl w1.heap.size C1 rfl rfl 47 Z6 Av1.out I1.out Z1.out O1.out ?_; rw [Ev1.out])
    | (refine wpList_load_row rfl 47 (.tmp 5) rfl w1.heap.size rfl 47 C1 (0, 0) _ Q1.out Try.underlying47 rfl I1.out ?_))
  clear Av1 Ev1
  generalize w1.alloc (.cells C1 47) = v1 at *
  generalize w1.heap.size = gv1 at *
  refine (RR.out _).mono ?_
  rintro e w2 ⟨rfl, hb⟩
  have B0 := Lib.hid (B0.out.trans (hb.mono B0.out.size))
  have GR := Lib.hid ((hb.block _ (blk_lt GR.out)).trans GR.out)
  have GB := Lib.hid ((hb.block _ (blk_lt GB.out)).trans GB.out)
  have Q1 := Lib.hid ((hb.block _ (blk_lt Q1.out)).trans Q1.out)
  clear hb
  have Av2 := Lib.hid (heap_alloc_new w2 (.cells ZG 46))
  have Ev2 := Lib.hid (alloc_setRowT w2 ZG CR 46 _ rfl)
  have Q2 := Lib.hid (heap_alloc_new w2 (.cells CR 46))
  have halv2 : Below w2.heap.size w2 (w2.alloc (.cells CR 46)) := (Below.refl _ _).alloc (Nat.le_refl _) _
  have B0 := Lib.hid (B0.out.trans (halv2.mono B0.out.size))
  have GR := Lib.hid ((halv2.block _ (blk_lt GR.out)).trans GR.out)
  have GB := Lib.hid ((halv2.block _ (blk_lt GB.out)).trans GB.out)
  have Q1 := Lib.hid ((halv2.block _ (blk_lt Q1.out)).trans Q1.out)
  clear halv2
  go_wp2_with (first
    | (refine wpList_store_row rfl 46 (.tmp 7) (.tmp 23) rfl w2.heap.size CR rfl rfl 46 ZG Av2.out IR.out ZR.out OR.out ?_; rw [Ev2.out])
    | (refine wpList_load_met rfl 46 (.tmp 2) rfl w.heap.size rfl 46 CR (0, 0) _ GR.out Try.underlying46 ⟨_, rfl⟩ IR.out ?_)
    | (refine wpList_load_met rfl 46 (.tmp 7) rfl w2.heap.size rfl 46 CR (0, 0) _ Q2.out Try.underlying46 ⟨_, rfl⟩ IR.out ?_)
    | (refine wpList_blank_met rfl 46 rfl (BG.out _) ?_)
    | (refine wpList_load_row rfl 47 (.tmp 3) rfl (w.heap.size + 1) rfl 47 CB (0, 0) _ GB.out Try.underlying47 rfl IB.out ?_))
  clear Av2 Ev2
  generalize w2.alloc (.cells CR 46) = v2 at *
  generalize w2.heap.size = gv2 at *
  refine (RB.out _).mono ?_
  rintro e v2r ⟨rfl, hb⟩
  have B0 := Lib.hid (B0.out.trans (hb.mono B0.out.size))
  have GR := Lib.hid ((hb.block _ (blk_lt GR.out)).trans GR.out)
  have GB := Lib.hid ((hb.block _ (blk_lt GB.out)).trans GB.out)
  have Q1 := Lib.hid ((hb.block _ (blk_lt Q1.out)).trans Q1.out)
  have Q2 := Lib.hid ((hb.block _ (blk_lt Q2.out)).trans Q2.out)
  clear hb
  have Av3 := Lib.hid (heap_alloc_new v2r (.cells ZG 46))
  have Ev3 := Lib.hid (alloc_setRowT v2r ZG CQ 46 _ rfl)
  have QQ := Lib.hid (heap_alloc_new v2r (.cells CQ 46))
  have halv3 : Below v2r.heap.size v2r (v2r.alloc (.cells CQ 46)) := (Below.refl _ _).alloc (Nat.le_refl _) _
  have B0 := Lib.hid (B0.out.trans (halv3.mono B0.out.size))
  have GR := Lib.hid ((halv3.block _ (blk_lt GR.out)).trans GR.out)
  have GB := Lib.hid ((halv3.block _ (blk_lt GB.out)).trans GB.out)
  have Q1 := Lib.hid ((halv3.block _ (blk_lt Q1.out)).trans Q1.out)
  have Q2 := Lib.hid ((halv3.block _ (blk_lt Q2.out)).trans Q2.out)
  clear halv3
  go_wp2_with (first
    | (refine wpList_store_row rfl 46 (.tmp 9) (.tmp 48) rfl v2r.heap.size CQ rfl rfl 46 ZG Av3.out IQ.out ZQ.out OQ.out ?_; rw [Ev3.out])
    | (refine wpList_load_row rfl 46 (.tmp 9) rfl v2r.heap.size rfl 46 CQ (0, 0) _ (heap_alloc_new _ _) Try.underlying46 rfl IQ.out ?_))
  clear Av3 Ev3
  generalize v2r.alloc (.cells CQ 46) = v3 at *
  generalize v2r.heap.size = gv3 at *
  refine (WB.out _).mono ?_
  rintro e w9 ⟨rfl, hb⟩
  have B0 := Lib.hid (B0.out.trans (hb.mono B0.out.size))
  have GR := Lib.hid ((hb.block _ (blk_lt GR.out)).trans GR.out)
  have GB := Lib.hid ((hb.block _ (blk_lt GB.out)).trans GB.out)
  have Q1 := Lib.hid ((hb.block _ (blk_lt Q1.out)).trans Q1.out)
  have Q2 := Lib.hid ((hb.block _ (blk_lt Q2.out)).trans Q2.out)
  have QQ := Lib.hid ((hb.block _ (blk_lt QQ.out)).trans QQ.out)
  clear hb
  have Av4 := Lib.hid (heap_alloc_new w9 (.cells Z6 47))
  have Ev4 := Lib.hid (alloc_setRowT w9 Z6 CV 47 _ rfl)
  have QV := Lib.hid (heap_alloc_new w9 (.cells CV 47))
  have halv4 : Below w9.heap.size w9 (w9.alloc (.cells CV 47)) := (Below.refl _ _).alloc (Nat.le_refl _) _
  have B0 := Lib.hid (B0.out.trans (halv4.mono B0.out.size))
  have GR := Lib.hid ((halv4.block _ (blk_lt GR.out)).trans GR.out)
  have GB := Lib.hid ((halv4.block _ (blk_lt GB.out)).trans GB.out)
  have Q1 := Lib.hid ((halv4.block _ (blk_lt Q1.out)).trans Q1.out)
  have Q2 := Lib.hid ((halv4.block _ (blk_lt Q2.out)).trans Q2.out)
  have QQ := Lib.hid ((halv4.block _ (blk_lt QQ.out)).trans QQ.out)
  clear halv4
  go_wp2_with (first
    | (refine wpList_store_row rfl 47 (.tmp 11) (.tmp 53) rfl w9.heap.size CV rfl rfl 47 Z6 Av4.out IV.out ZV.out OV.out ?_; rw [Ev4.out]))
  clear Av4 Ev4
  generalize w9.alloc (.cells CV 47) = v4 at *
  generalize w9.heap.size = gv4 at *
  by_cases hEB : EB = 0
  · subst hEB
    obtain ⟨e1, e2⟩ := EZ.out (by first | rfl | trivial)
    subst e1
    have EQV := Lib.hid e2
    clear e2 EZ
    refine (AL.out _).mono ?_
    rintro e w6 ⟨rfl, hb⟩
    have B0 := Lib.hid (B0.out.trans (hb.mono B0.out.size))
    have GR := Lib.hid ((hb.block _ (blk_lt GR.out)).trans GR.out)
    have GB := Lib.hid ((hb.block _ (blk_lt GB.out)).trans GB.out)
    have QV := Lib.hid ((hb.block _ (blk_lt QV.out)).trans QV.out)
    clear hb
    have ck := (gcell (R := R) HL.out (by rw [hCR]; exact GR.out)).2.2
    have hk2 := HK.out
    have eqv := EQV.out
    go_wp2_with (first
      | (refine wpList_load_met' rfl 47 (.tmp 11) rfl gv4 rfl 47 CV (0, 0) _ QV.out Try.underlying47 ⟨_, _, rfl⟩ IV.out ?_)
      | (refine wpList_load_met' rfl 47 (.tmp 3) rfl (w.heap.size + 1) rfl 47 CB (0, 0) _ GB.out Try.underlying47 ⟨_, _, rfl⟩ IB.out ?_))
    go_ret
    exact ⟨rfl, B0.out⟩
  · have HEB : Hid ((EB != 0) = true) := by show _ = _; simpa using hEB
    clear EZ
    refine (AL.out _).mono ?_
    rintro e w6 ⟨rfl, hb⟩
    have B0 := Lib.hid (B0.out.trans (hb.mono B0.out.size))
    have GR := Lib.hid ((hb.block _ (blk_lt GR.out)).trans GR.out)
    have GB := Lib.hid ((hb.block _ (blk_lt GB.out)).trans GB.out)
    have QV := Lib.hid ((hb.block _ (blk_lt QV.out)).trans QV.out)
    clear hb
    have ck := (gcell (R := R) HL.out (by rw [hCR]; exact GR.out)).2.2
    have hk2 := HK.out
    have heb := HEB.out
    go_wp2_with (first
      | (refine wpList_load_met' rfl 47 (.tmp 11) rfl gv4 rfl 47 CV (0, 0) _ QV.out Try.underlying47 ⟨_, _, rfl⟩ IV.out ?_)
      | (refine wpList_load_met' rfl 47 (.tmp 3) rfl (w.heap.size + 1) rfl 47 CB (0, 0) _ GB.out Try.underlying47 ⟨_, _, rfl⟩ IB.out ?_))
    go_ret
    exact ⟨rfl, B0.out⟩
set_option maxRecDepth 100000 in
set_option maxHeartbeats 8000000 in
theorem walk_zero (R : Rg) (hR : R.ok) (bs : List Int) (hb : Byt bs) (lb : bs.length = 64) (w : World) (hk : R = G0) :
    Calls Try.prog 6 #[.agg (gcells R), .agg (bcells bs)] w fun e w' => e = .returned (.bool true) ∧ Below w.heap.size w w' := by
  have hz46 := z46
  have hz47 := z47
  have HL := Lib.hid hR.2.2.2.2
  have WG : Hid (∀ W, Calls Try.prog 18 #[.agg (gcells R)] W fun e w' => e = .returned (.tuple #[.agg (bcells (gW R)), .int .i64 0]) ∧ Below W.heap.size W w') := fun W => by
    have := writeG R hR W
    unfold WriteGP gE gV at this
    rw [if_pos (by rw [hk]; decide), if_pos (by rw [hk]; decide)] at this
    exact this
  have RB : Hid (∀ W, Calls Try.prog 21 #[.agg (bcells bs)] W fun e w' => e = .returned (.tuple #[.agg (gcells (gRv bs)), .int .i64 (gRe bs)]) ∧ Below W.heap.size W w') := fun W => readG bs hb lb W
  have WB : Hid (∀ W, Calls Try.prog 18 #[.agg (gcells (gRv bs))] W fun e w' => e = .returned (.tuple #[.agg (bcells (gV (gRv bs))), .int .i64 (gE (gRv bs))]) ∧ Below W.heap.size W w') := fun W => writeG _ (gRv_ok hb lb) W
  have BV : Hid (Byt (gV (gRv bs)) ∧ (gV (gRv bs)).length = 64) := ⟨gV_byt (gRv_ok hb lb).2.2.2.1, gV_len (gRv_ok hb lb).2.2.2.2⟩
  have IR := Lib.hid (i46 HL.out)
  have IB := Lib.hid (i47 lb)
  have IV := Lib.hid (i47 BV.out.2)
  have OV := Lib.hid (one_cells (gV (gRv bs)))
  have ZV := Lib.hid (bcells_sz (show (zs 64).length = (gV (gRv bs)).length by rw [zs_len, BV.out.2]))
  have LQ := Lib.hid (gRv_ok hb lb).2.2.2.2
  have IQ := Lib.hid (i46 LQ.out)
  have OQ := Lib.hid (one_gcells (gRv bs))
  have ZQ : Hid ((gcells G0).size = (gcells (gRv bs)).size) := by show _ = _; rw [gcells_size (zs_len 32), gcells_size LQ.out]
  have I1 := Lib.hid (i47 (xs := gW R) (gW_len HL.out))
  have O1 := Lib.hid (one_cells (gW R))
  have Z1 := Lib.hid (bcells_sz (show (zs 64).length = (gW R).length from (zs_len 64).trans ((gW_len HL.out)).symm))
  have EZ : Hid (gRe bs = 0 → gE (gRv bs) = 0 ∧ ∀ W, (Op.equalIn 10000 47 (.agg (bcells (gV (gRv bs)))) (.agg (bcells bs))).run Try.prog W = .ok true W) := fun h => by
    obtain ⟨h1, h2, h3⟩ := rb_zero h
    refine ⟨by rw [h3]; exact if_pos h1, fun W => ?_⟩
    rw [eq47 _ _ BV.out.1 hb BV.out.2 lb W, decide_eq_true]
    rw [h3]
    unfold gV
    rw [if_pos h1, h2]
  have RR : Hid (∀ W, Calls Try.prog 21 #[.agg (bcells (gW R))] W fun e w' => e = .returned (.tuple #[.agg (gcells R), .int .i64 4]) ∧ Below W.heap.size W w') := fun W => by
    have := readG (gW R) (gW_byt hR.2.2.2.1) (gW_len hR.2.2.2.2) W
    unfold ReadGP at this
    rw [gRe_gW0 hR hk, gRv_gW hR (by rw [hk]; decide)] at this
    exact this
  have E0 : Hid (∀ W, (Op.equalIn 10000 46 (.agg (gcells R)) (.agg (gcells G0))).run Try.prog W = .ok true W) := fun W => by
    rw [eq46 R G0 hR.2.2.2.1 (zs_byt _) HL.out (zs_len _) W, decide_eq_true ((eqG_iff R G0).2 hk)]
  have E1 : Hid (∀ W, (Op.equalIn 10000 47 (.agg (bcells (gW R))) (.agg (bcells (zs 64)))).run Try.prog W = .ok true W) := fun W => by
    rw [eq47 _ _ (gW_byt hR.2.2.2.1) (zs_byt _) (gW_len HL.out) (zs_len _) W, decide_eq_true ((gW_zero hR).2 hk)]
  have OR := Lib.hid (one_gcells R)
  have ZR : Hid ((gcells G0).size = (gcells R).size) := by show _ = _; rw [gcells_size (zs_len 32), gcells_size HL.out]
  have BG := Lib.hid bld46
  have BY := Lib.hid bld47
  have eq0 := E0.out
  have eq1 := E1.out
  clear hk E0 E1
  have AL := Lib.hid alive19
  generalize bcells (gV (gRv bs)) = CV at *
  generalize gcells (gRv bs) = CQ at *
  generalize hCR : gcells R = CR at *
  generalize bcells bs = CB at *
  generalize gcells G0 = ZG at *
  generalize bcells (gW R) = C1 at *
  try generalize bcells (zs 64) = Z6 at *
  generalize gE (gRv bs) = EV at *
  generalize gRe bs = EB at *
  obtain ⟨W0, hW0⟩ : ∃ W0, W0 = (w.alloc (.cells CR 46)).alloc (.cells CB 47) := ⟨_, rfl⟩
  have B0 : Hid (Below w.heap.size w W0) := by rw [hW0]; exact ((Below.refl _ _).alloc (Nat.le_refl _) _).alloc (by simp) _
  have GR : Hid (W0.heap[w.heap.size]? = some (.cells CR 46 (0, 0))) := by show _ = _; rw [hW0, Below.heap_alloc _ _ _ (by simp)]; exact heap_alloc_new w _
  have GB : Hid (W0.heap[w.heap.size + 1]? = some (.cells CB 47 (0, 0))) := by show _ = _; rw [hW0]; exact heap_alloc2_new w _ _
  have HW0 := Lib.hid hW0
  clear hW0 hR hb lb
  go_enter Try.func6, Try.ntmps6
  go_wp2_with (refine wpList_load_row rfl 46 (.tmp 2) rfl w.heap.size rfl 46 CR (0, 0) _ (by rw [← HW0.out]; exact GR.out) Try.underlying46 rfl IR.out ?_)
  rw [← HW0.out]
  refine (WG.out _).mono ?_
  rintro e w1 ⟨rfl, hb⟩
  have B0 := Lib.hid (B0.out.trans (hb.mono B0.out.size))
  have GR := Lib.hid ((hb.block _ (blk_lt GR.out)).trans GR.out)
  have GB := Lib.hid ((hb.block _ (blk_lt GB.out)).trans GB.out)
  clear hb
  have Av1 := Lib.hid (heap_alloc_new w1 (.cells Z6 47))
  have Ev1 := Lib.hid (alloc_setRowT w1 Z6 C1 47 _ rfl)
  have Q1 := Lib.hid (heap_alloc_new w1 (.cells C1 47))
  have halv1 : Below w1.heap.size w1 (w1.alloc (.cells C1 47)) := (Below.refl _ _).alloc (Nat.le_refl _) _
  have B0 := Lib.hid (B0.out.trans (halv1.mono B0.out.size))
  have GR := Lib.hid ((halv1.block _ (blk_lt GR.out)).trans GR.out)
  have GB := Lib.hid ((halv1.block _ (blk_lt GB.out)).trans GB.out)
  clear halv1
  go_wp2_with (first
    | (refine wpList_store_row rfl 47 (.tmp 5) (.tmp 16) rfl w1.heap.size C1 rfl rfl 47 Z6 Av1.out I1.out Z1.out O1.out ?_; rw [Ev1.out])
    | (refine wpList_load_row rfl 47 (.tmp 5) rfl w1.heap.size rfl 47 C1 (0, 0) _ Q1.out Try.underlying47 rfl I1.out ?_))
  clear Av1 Ev1
  generalize w1.alloc (.cells C1 47) = v1 at *
  generalize w1.heap.size = gv1 at *
  refine (RR.out _).mono ?_
  rintro e w2 ⟨rfl, hb⟩
  have B0 := Lib.hid (B0.out.trans (hb.mono B0.out.size))
  have GR := Lib.hid ((hb.block _ (blk_lt GR.out)).trans GR.out)
  have GB := Lib.hid ((hb.block _ (blk_lt GB.out)).trans GB.out)
  have Q1 := Lib.hid ((hb.block _ (blk_lt Q1.out)).trans Q1.out)
  clear hb
  have Av2 := Lib.hid (heap_alloc_new w2 (.cells ZG 46))
  have Ev2 := Lib.hid (alloc_setRowT w2 ZG CR 46 _ rfl)
  have Q2 := Lib.hid (heap_alloc_new w2 (.cells CR 46))
  have halv2 : Below w2.heap.size w2 (w2.alloc (.cells CR 46)) := (Below.refl _ _).alloc (Nat.le_refl _) _
  have B0 := Lib.hid (B0.out.trans (halv2.mono B0.out.size))
  have GR := Lib.hid ((halv2.block _ (blk_lt GR.out)).trans GR.out)
  have GB := Lib.hid ((halv2.block _ (blk_lt GB.out)).trans GB.out)
  have Q1 := Lib.hid ((halv2.block _ (blk_lt Q1.out)).trans Q1.out)
  clear halv2
  go_wp2_with (first
    | (refine wpList_store_row rfl 46 (.tmp 7) (.tmp 23) rfl w2.heap.size CR rfl rfl 46 ZG Av2.out IR.out ZR.out OR.out ?_; rw [Ev2.out])
    | (refine wpList_load_met rfl 46 (.tmp 2) rfl w.heap.size rfl 46 CR (0, 0) _ GR.out Try.underlying46 ⟨_, rfl⟩ IR.out ?_)
    | (refine wpList_blank_met rfl 46 rfl (BG.out _) ?_))
  clear Av2 Ev2
  generalize w2.alloc (.cells CR 46) = v2 at *
  generalize w2.heap.size = gv2 at *
  refine (AL.out _).mono ?_
  rintro e w3 ⟨rfl, hb⟩
  have B0 := Lib.hid (B0.out.trans (hb.mono B0.out.size))
  have GR := Lib.hid ((hb.block _ (blk_lt GR.out)).trans GR.out)
  have GB := Lib.hid ((hb.block _ (blk_lt GB.out)).trans GB.out)
  have Q1 := Lib.hid ((hb.block _ (blk_lt Q1.out)).trans Q1.out)
  have Q2 := Lib.hid ((hb.block _ (blk_lt Q2.out)).trans Q2.out)
  clear hb
  go_wp2_with (first
    | (refine wpList_load_met' rfl 47 (.tmp 5) rfl gv1 rfl 47 C1 (0, 0) _ Q1.out Try.underlying47 ⟨_, _, rfl⟩ I1.out ?_)
    | (refine wpList_blank_met rfl 47 rfl (BY.out _) ?_))
  go_ret
  exact ⟨rfl, B0.out⟩
theorem walk (R : Rg) (hR : R.ok) (bs : List Int) (hb : Byt bs) (lb : bs.length = 64) (w : World) :
    Calls Try.prog 6 #[.agg (gcells R), .agg (bcells bs)] w fun e w' => e = .returned (.bool true) ∧ Below w.heap.size w w' := by
  by_cases hk : R.k ≤ 1
  · by_cases h0 : R = G0
    · exact walk_zero R hR bs hb lb w h0
    · exact walk_fit R hR bs hb lb w hk h0
  · exact walk_not R hR bs hb lb w hk

set_option maxRecDepth 100000 in
theorem lifted (os : Os) (started : os.Started) (H : Type) (enc : TypeId × Value → H) :
    ReturnsInHanded {} Try.checked os 6 .any (Rows.superRegBackSpec.pre6 enc Try.prog Try.f6 Rows.superRegBackRow.domain false) (Rows.superRegBackSpec.post enc Try.prog Try.f6 false true false false) := by
  refine returnsInHanded_of_change (C := Try.checked) own started (by kernel_rfl) Try.func6
    (ChangeSpec.witness6 (enc := enc) (C := Try.checked) false ⟨#[], #[.agg (gcells G0), .agg (bcells (zs 64))], []⟩ 8 (by kernel_rfl) (by kernel_rfl) (by kernel_rfl) (by kernel_rfl)) ?_
  intro W base args ds gs before hval0 hW hcnd _
  have hval : ∀ (j : Nat) t v, Try.f6.params[j]? = some t → args[j]? = some v → Value.okWide Try.prog W .any base t v := hval0
  have hW' := hW
  obtain ⟨p, q, hA0, hV, rfl, hfz, hnd⟩ := hW
  have hA : DataW.TrodAll enc Try.prog W 0 (fun _ => true) true Try.f6.params.toList args.toList ds p := hA0
  rw [Try.params6] at hA hval
  obtain ⟨v0, vs0, d0, ds0, p0, q0, hargs, rfl, rfl, h0, r0⟩ := trodAll_cons hA
  obtain ⟨v1, vs1, d1, ds1, p1, q1, rfl, rfl, rfl, h1, r1⟩ := trodAll_cons r0
  obtain ⟨rfl, rfl, rfl⟩ := trodAll_nil r1
  obtain rfl : args = #[v0, v1] := by cases args; simp_all
  obtain ⟨rfl, rfl⟩ := trodVars_none hV
  obtain ⟨R0, hR0, rfl⟩ := open_reg (hval 0 46 v0 rfl rfl) h0
  obtain ⟨y1, hy1, ly1, rfl⟩ := open_arr64 (hval 1 47 v1 rfl rfl) h1
  refine (walk R0 hR0 y1 hy1 ly1 W).mono fun e W' ⟨he, hb⟩ => ?_
  subst he
  exact ⟨_, rfl, law_post hW' rfl rfl rfl (by kernel_rfl) hb⟩

/-- The statement. -/
theorem proved : Rows.SuperRegBackSaid :=
  OpenClaim.holds_of_wide 6 Try.f6 rfl rfl rfl rfl rfl rfl rfl ⟨rfl, rfl, rfl, rfl, rfl⟩ rfl rfl rfl rfl rfl (by kernel_rfl) Try.func6 (by kernel_rfl)
    (of_decide_eq_true (by kernel_rfl)) (by unfold Func.isWrapper; first | (rw [if_pos (by decide +kernel)]; kernel_rfl) | (rw [if_neg (by decide +kernel)]; exact ⟨rfl, rfl⟩))
    (fun os started H enc _ => lifted os started H enc)
#print axioms proved
end Go.Proofs.Ytplffbpnjnbolaa.superRegBack
