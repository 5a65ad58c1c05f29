/-
  The walk of ReplyStatus. Condition: the arguments read as a status and as bytes.
-/
import Derived.Test.YtabopcfhonkecaaRpT
namespace Go.Proofs.Ytabopcfhonkecaa
open Go.RowKit

set_option maxRecDepth 100000 in
set_option maxHeartbeats 4000000 in
theorem status_tt {L : List Int} (hl : L.length = 19) (u : Value) (xs : List Int) (h6 : xs.length ≤ 200) (w : World) (hu : Sees w u xs) (hr : wB L = true) (hk : xs.length = 38) :
    Calls Try.prog 4 #[.agg (sc L).toArray, u] w (AliveP w) := by
  have H6 := Lib.hid h6
  have ia := Lib.hid (i41 hl)
  obtain ⟨Z, hZ⟩ : ∃ Z, Z = (sc zL).toArray := ⟨_, rfl⟩
  have z := z41
  have bz := b41z
  have iz := i41 (L := zL) rfl
  rw [← hZ] at z iz bz
  have HZ := Lib.hid z
  have BZ := Lib.hid bz
  have IZ := Lib.hid iz
  obtain ⟨xu, cu, eu, xu63⟩ := hu.form
  have SU0 := Lib.hid hu
  have EA : Hid (∀ W, Calls Try.prog 15 #[.agg (sc L).toArray] W fun e w' => ∃ x cap, e = .returned (.tuple #[.slice x (wV L).length cap, .int .i64 0]) ∧ Sees w' (.slice x (wV L).length cap) (wV L) ∧ Below W.heap.size W w') := fun W => by
    have hh := writeC hl W
    unfold WriteP at hh
    rw [show wE L = 0 by rw [wE_eq, hr]; rfl] at hh
    exact hh
  have LA : Hid (∀ W, Calls Try.prog 17 #[.agg (sc L).toArray] W (ListP W L)) := fun W => listC hl W
  have WA : Hid (∀ v W, IS W v (wlp L 8) → Calls Try.prog 16 #[v] W fun e w' => ∃ x cap, e = .returned (.tuple #[.slice x (wV L).length cap, .bool true]) ∧ Sees w' (.slice x (wV L).length cap) (wV L) ∧ Below W.heap.size W w') := fun v W h => by
    have hh := wordsC v _ W h (by rw [wlp_len]; omega)
    unfold WordsP at hh
    rw [oV_eq hl, words_eq hl, hr] at hh
    exact hh
  obtain ⟨kx, kr⟩ := back38 hu.1 hk
  have DU : Hid (∀ W, Sees W u xs → Calls Try.prog 18 #[u] W fun e w' => e = .returned (.tuple #[.agg (sc (rL xs 8)).toArray, .int .i64 0]) ∧ Below W.heap.size W w') := fun W h => by
    have hh := readC u xs (by omega) W h
    unfold ReadS stL stE at hh
    rw [if_pos hk, if_pos hk] at hh
    exact hh
  have ic2 := i41 (rL_len xs 8)
  have oc2 := sc_one (rL xs 8)
  have LB : Hid (∀ W, Calls Try.prog 17 #[.agg (sc (rL xs 8)).toArray] W (ListP W (rL xs 8))) := fun W => listC (rL_len xs 8) W
  have WB : Hid (∀ v W, IS W v (wlp (rL xs 8) 8) → Calls Try.prog 16 #[v] W fun e w' => ∃ x cap, e = .returned (.tuple #[.slice x xs.length cap, .bool true]) ∧ Sees w' (.slice x xs.length cap) xs ∧ Below W.heap.size W w') := fun v W h => by
    have hh := wordsC v _ W h (by rw [wlp_len]; omega)
    unfold WordsP at hh
    rw [oV_eq (rL_len xs 8), words_eq (rL_len xs 8), kr] at hh
    unfold wV at hh
    rw [if_pos kr, kx] at hh
    exact hh
  obtain ⟨T, hT⟩ : ∃ T, T = rL xs 8 := ⟨_, rfl⟩
  rw [← hT] at DU ic2 oc2 LB WB
  clear kx kr hT
  obtain ⟨C2, hC2⟩ : ∃ C2, C2 = (sc T).toArray := ⟨_, rfl⟩
  rw [← hC2] at DU ic2 oc2 LB
  have IC2 := Lib.hid ic2
  have OC2 := Lib.hid oc2
  clear hC2 ic2 oc2
  have LE38 := Lib.hid hk
  obtain ⟨A, hA⟩ : ∃ A, A = (sc L).toArray := ⟨_, rfl⟩
  rw [← hA] at ia EA LA ⊢
  obtain ⟨w1, hw1⟩ : ∃ w1, w1 = w.alloc (.cells A 41) := ⟨_, rfl⟩
  have b1 : Below w.heap.size w w1 := by rw [hw1]; exact (Below.refl _ _).alloc (Nat.le_refl _) _
  have G1 : Hid (w1.heap[w.heap.size]? = some (.cells A 41 (0, 0))) := by show _ = _; rw [hw1]; exact heap_alloc_new w _
  have BE := Lib.hid b1
  have SU := Lib.hid (hu.below b1)
  have HW1 := Lib.hid hw1
  have AL : Hid (∀ W : World, Calls Try.prog 7 #[] W (AliveP W)) := alive
  have n6 : decide (200 < xs.length) = false := decide_eq_false (by omega)
  have k6 : ((xs.length : Nat) : Int) ≤ 200 := by omega
  subst eu
  clear H6 z bz iz hZ hw1 b1 hu hA h6 hr xu63 hl SU0
  clear hk
  generalize wV L = V at EA WA
  go_enter Try.func4, Try.ntmps4
  go_wp2_with (first | rw [← HW1.out] | refine wpList_load_row rfl 41 (.tmp 2) rfl w.heap.size rfl 41 A (0, 0) _ G1.out Try.underlying41 rfl ia.out ?_)
  refine (EA.out w1).mono ?_
  rintro e wk1 ⟨x1, c1, rfl, hs, hb⟩
  have qBE := BE.out.trans (hb.mono BE.out.size)
  have qG1 := (hb.block _ (blk_lt G1.out)).trans G1.out
  have qSU := SU.out.below hb
  clear BE G1 SU
  have BE := Lib.hid qBE
  have G1 := Lib.hid qG1
  have SU := Lib.hid qSU
  clear qBE qG1 qSU
  have SX := Lib.hid hs
  clear n6 k6
  clear hb hs
  go_wp2_with (first | refine wpList_load_row rfl 41 (.tmp 2) rfl w.heap.size rfl 41 A (0, 0) _ G1.out Try.underlying41 rfl ia.out ?_)
  refine (LA.out wk1).mono ?_
  rintro e wk2 ⟨vl, rfl, hs, hb⟩
  have qBE := BE.out.trans (hb.mono BE.out.size)
  have qG1 := (hb.block _ (blk_lt G1.out)).trans G1.out
  have qSU := SU.out.below hb
  have qSX := SX.out.below hb
  clear BE G1 SU SX
  have BE := Lib.hid qBE
  have G1 := Lib.hid qG1
  have SU := Lib.hid qSU
  have SX := Lib.hid qSX
  clear qBE qG1 qSU qSX
  have SL := Lib.hid hs
  clear hb hs
  go_wp2_with fail
  refine (WA.out vl wk2 SL.out).mono ?_
  rintro e wk3 ⟨x2, c2, rfl, hs, hb⟩
  have qBE := BE.out.trans (hb.mono BE.out.size)
  have qG1 := (hb.block _ (blk_lt G1.out)).trans G1.out
  have qSU := SU.out.below hb
  have qSX := SX.out.below hb
  clear BE G1 SU SX
  have BE := Lib.hid qBE
  have G1 := Lib.hid qG1
  have SU := Lib.hid qSU
  have SX := Lib.hid qSX
  clear qBE qG1 qSU qSX
  have SY := Lib.hid hs
  clear hb hs SL
  go_wp2_with fail
  refine (DU.out wk3 SU.out).mono ?_
  rintro e wk4 ⟨rfl, hb⟩
  have qBE := BE.out.trans (hb.mono BE.out.size)
  have qG1 := (hb.block _ (blk_lt G1.out)).trans G1.out
  have qSU := SU.out.below hb
  have qSX := SX.out.below hb
  have qSY := SY.out.below hb
  clear BE G1 SU SX SY
  have BE := Lib.hid qBE
  have G1 := Lib.hid qG1
  have SU := Lib.hid qSU
  have SX := Lib.hid qSX
  have SY := Lib.hid qSY
  clear qBE qG1 qSU qSX qSY

  clear hb DU
  obtain ⟨wk5, hwk5⟩ : ∃ x, x = wk4.alloc (.cells C2 41) := ⟨_, rfl⟩
  have RN5 : Hid ((wk4.alloc (.cells Z 41)).setRow wk4.heap.size C2 = wk5) := by show _ = _; rw [hwk5]; exact alloc_setRowT wk4 Z C2 41 _ rfl
  have IZ5 : Hid (Z.size = C2.size) := Option.some.inj (IZ.out.symm.trans IC2.out)
  have GZ5 : Hid ((wk4.alloc (.cells Z 41)).heap[wk4.heap.size]? = some (.cells Z 41 (0, 0))) := heap_alloc_new wk4 _
  have hb : Below wk4.heap.size wk4 wk5 := by rw [hwk5]; exact (Below.refl _ _).alloc (Nat.le_refl _) _
  have q0 : wk5.heap[wk4.heap.size]? = some (.cells C2 41 (0, 0)) := by rw [hwk5]; exact heap_alloc_new wk4 _
  have qBE := BE.out.trans (hb.mono BE.out.size)
  have qG1 := (hb.block _ (blk_lt G1.out)).trans G1.out
  have qSU := SU.out.below hb
  have qSX := SX.out.below hb
  have qSY := SY.out.below hb
  clear BE G1 SU SX SY
  have BE := Lib.hid qBE
  have G1 := Lib.hid qG1
  have SU := Lib.hid qSU
  have SX := Lib.hid qSX
  have SY := Lib.hid qSY
  clear qBE qG1 qSU qSX qSY
  have GC2 := Lib.hid q0
  clear q0 hb hwk5
  go_upto_region 6 with (refine wpList_alloc_z rfl 41 rfl (HZ.out _) ?_; refine wpList_store_row rfl 41 (.tmp 9) (.tmp 31) rfl wk4.heap.size C2 rfl rfl 41 Z GZ5.out IC2.out IZ5.out OC2.out ?_; rw [RN5.out])
  go_wp2_with (first | refine wpList_load_row rfl 41 (.tmp 9) rfl wk4.heap.size rfl 41 C2 (0, 0) _ GC2.out Try.underlying41 rfl IC2.out ?_)
  refine (LB.out wk5).mono ?_
  rintro e wk6 ⟨vm, rfl, hs, hb⟩
  have qBE := BE.out.trans (hb.mono BE.out.size)
  have qG1 := (hb.block _ (blk_lt G1.out)).trans G1.out
  have qSU := SU.out.below hb
  have qSX := SX.out.below hb
  have qSY := SY.out.below hb
  have qGC2 := (hb.block _ (blk_lt GC2.out)).trans GC2.out
  clear BE G1 SU SX SY GC2
  have BE := Lib.hid qBE
  have G1 := Lib.hid qG1
  have SU := Lib.hid qSU
  have SX := Lib.hid qSX
  have SY := Lib.hid qSY
  have GC2 := Lib.hid qGC2
  clear qBE qG1 qSU qSX qSY qGC2
  have SL := Lib.hid hs
  clear hb hs
  go_wp2_with fail
  refine (WB.out vm wk6 SL.out).mono ?_
  rintro e wk7 ⟨x4, c4, rfl, hs, hb⟩
  have qBE := BE.out.trans (hb.mono BE.out.size)
  have qG1 := (hb.block _ (blk_lt G1.out)).trans G1.out
  have qSU := SU.out.below hb
  have qSX := SX.out.below hb
  have qSY := SY.out.below hb
  have qGC2 := (hb.block _ (blk_lt GC2.out)).trans GC2.out
  clear BE G1 SU SX SY GC2
  have BE := Lib.hid qBE
  have G1 := Lib.hid qG1
  have SU := Lib.hid qSU
  have SX := Lib.hid qSX
  have SY := Lib.hid qSY
  have GC2 := Lib.hid qGC2
  clear qBE qG1 qSU qSX qSY qGC2
  have SZ := Lib.hid hs
  clear hb hs SL
  have cv1 := SX.out.str
  have cv2 := SY.out.str
  have AP : ((strOfNums V).toList == (strOfNums V).toList) = true := by simp
  have AN : ((strOfNums V).toList != (strOfNums V).toList) = false := by simp
  generalize strOfNums V = S0 at cv1 cv2 AP AN
  go_upto_region 9 with (fail)
  clear cv1 cv2 AP AN
  have l38 : xs.length = 38 := LE38.out
  rw [l38] at SU ⊢
  go_wp2_with fail
  refine (AL.out wk7).mono ?_
  rintro e wk8 ⟨rfl, hb⟩
  have qBE := BE.out.trans (hb.mono BE.out.size)
  have qG1 := (hb.block _ (blk_lt G1.out)).trans G1.out
  have qSU := SU.out.below hb
  have qSX := SX.out.below hb
  have qSY := SY.out.below hb
  have qGC2 := (hb.block _ (blk_lt GC2.out)).trans GC2.out
  have qSZ := SZ.out.below hb
  clear BE G1 SU SX SY GC2 SZ
  have BE := Lib.hid qBE
  have G1 := Lib.hid qG1
  have SU := Lib.hid qSU
  have SX := Lib.hid qSX
  have SY := Lib.hid qSY
  have GC2 := Lib.hid qGC2
  have SZ := Lib.hid qSZ
  clear qBE qG1 qSU qSX qSY qGC2 qSZ

  clear hb
  have cv1 := SZ.out.str
  have cv2 := SU.out.str
  rw [l38] at cv1
  clear l38
  have AP : ((strOfNums xs).toList == (strOfNums xs).toList) = true := by simp
  generalize strOfNums xs = SX1 at cv1 cv2 AP
  go_wp2
  go_ret
  exact ⟨rfl, BE.out⟩

set_option maxRecDepth 100000 in
set_option maxHeartbeats 4000000 in
theorem status_tf {L : List Int} (hl : L.length = 19) (u : Value) (xs : List Int) (h6 : xs.length ≤ 200) (w : World) (hu : Sees w u xs) (hr : wB L = true) (hk : xs.length ≠ 38) :
    Calls Try.prog 4 #[.agg (sc L).toArray, u] w (AliveP w) := by
  have H6 := Lib.hid h6
  have ia := Lib.hid (i41 hl)
  obtain ⟨Z, hZ⟩ : ∃ Z, Z = (sc zL).toArray := ⟨_, rfl⟩
  have z := z41
  have bz := b41z
  have iz := i41 (L := zL) rfl
  rw [← hZ] at z iz bz
  have HZ := Lib.hid z
  have BZ := Lib.hid bz
  have IZ := Lib.hid iz
  obtain ⟨xu, cu, eu, xu63⟩ := hu.form
  have SU0 := Lib.hid hu
  have EA : Hid (∀ W, Calls Try.prog 15 #[.agg (sc L).toArray] W fun e w' => ∃ x cap, e = .returned (.tuple #[.slice x (wV L).length cap, .int .i64 0]) ∧ Sees w' (.slice x (wV L).length cap) (wV L) ∧ Below W.heap.size W w') := fun W => by
    have hh := writeC hl W
    unfold WriteP at hh
    rw [show wE L = 0 by rw [wE_eq, hr]; rfl] at hh
    exact hh
  have LA : Hid (∀ W, Calls Try.prog 17 #[.agg (sc L).toArray] W (ListP W L)) := fun W => listC hl W
  have WA : Hid (∀ v W, IS W v (wlp L 8) → Calls Try.prog 16 #[v] W fun e w' => ∃ x cap, e = .returned (.tuple #[.slice x (wV L).length cap, .bool true]) ∧ Sees w' (.slice x (wV L).length cap) (wV L) ∧ Below W.heap.size W w') := fun v W h => by
    have hh := wordsC v _ W h (by rw [wlp_len]; omega)
    unfold WordsP at hh
    rw [oV_eq hl, words_eq hl, hr] at hh
    exact hh
  have DU : Hid (∀ W, Sees W u xs → Calls Try.prog 18 #[u] W fun e w' => e = .returned (.tuple #[.agg (sc zL).toArray, .int .i64 3]) ∧ Below W.heap.size W w') := fun W h => by
    have hh := readC u xs (by omega) W h
    unfold ReadS stL stE at hh
    rw [if_neg hk, if_neg hk] at hh
    exact hh
  have oc2 := sc_one zL
  have LB : Hid (∀ W, Calls Try.prog 17 #[.agg (sc zL).toArray] W (ListP W zL)) := fun W => listC (L := zL) rfl W
  have WB : Hid (∀ v W, IS W v (wlp zL 8) → Calls Try.prog 16 #[v] W (WordsP W (wlp zL 8))) := fun v W h => wordsC v _ W h (by rw [wlp_len]; omega)
  have EQ : Hid (∀ W, (Op.equalIn 10000 41 (.agg (sc zL).toArray) (.agg (sc zL).toArray)).run Try.prog W = .ok true W) := fun W => by
    have h := eq41 (X := zL) (Y := zL) rfl rfl W
    rwa [decide_eq_true rfl] at h
  have ic2 := i41 (L := zL) rfl
  obtain ⟨C2, hC2⟩ : ∃ C2, C2 = (sc zL).toArray := ⟨_, rfl⟩
  have EQ2 : Hid (∀ W, (Op.equalIn 10000 41 (.agg C2) (.agg Z)).run Try.prog W = .ok true W) := fun W => by rw [hC2, hZ]; exact EQ.out W
  rw [← hC2] at DU oc2 LB ic2
  have IC2 := Lib.hid ic2
  have OC2 := Lib.hid oc2
  clear EQ hC2 ic2
  obtain ⟨T, hT⟩ : ∃ T, T = zL := ⟨_, rfl⟩
  rw [← hT] at WB LB
  clear oc2 hT
  have n38 : decide (xs.length = 38) = false := decide_eq_false hk
  have j38 : ((xs.length : Nat) : Int) ≠ 38 := by omega
  have i38 : (((xs.length : Nat) : Int) != 38) = true := bne_iff_ne.2 j38
  have j382 : (xs.length == 38) = false := beq_eq_false_iff_ne.2 hk
  obtain ⟨A, hA⟩ : ∃ A, A = (sc L).toArray := ⟨_, rfl⟩
  rw [← hA] at ia EA LA ⊢
  obtain ⟨w1, hw1⟩ : ∃ w1, w1 = w.alloc (.cells A 41) := ⟨_, rfl⟩
  have b1 : Below w.heap.size w w1 := by rw [hw1]; exact (Below.refl _ _).alloc (Nat.le_refl _) _
  have G1 : Hid (w1.heap[w.heap.size]? = some (.cells A 41 (0, 0))) := by show _ = _; rw [hw1]; exact heap_alloc_new w _
  have BE := Lib.hid b1
  have SU := Lib.hid (hu.below b1)
  have HW1 := Lib.hid hw1
  have AL : Hid (∀ W : World, Calls Try.prog 7 #[] W (AliveP W)) := alive
  have n6 : decide (200 < xs.length) = false := decide_eq_false (by omega)
  have k6 : ((xs.length : Nat) : Int) ≤ 200 := by omega
  subst eu
  clear H6 z bz iz hZ hw1 b1 hu hA h6 hr xu63 hl SU0
  clear hk j38
  have N38 := Lib.hid n38
  have I38 := Lib.hid i38
  have J38 := Lib.hid j382
  clear n38 i38 j382
  generalize wV L = V at EA WA
  go_enter Try.func4, Try.ntmps4
  go_wp2_with (first | rw [← HW1.out] | refine wpList_load_row rfl 41 (.tmp 2) rfl w.heap.size rfl 41 A (0, 0) _ G1.out Try.underlying41 rfl ia.out ?_)
  refine (EA.out w1).mono ?_
  rintro e wk1 ⟨x1, c1, rfl, hs, hb⟩
  have qBE := BE.out.trans (hb.mono BE.out.size)
  have qG1 := (hb.block _ (blk_lt G1.out)).trans G1.out
  have qSU := SU.out.below hb
  clear BE G1 SU
  have BE := Lib.hid qBE
  have G1 := Lib.hid qG1
  have SU := Lib.hid qSU
  clear qBE qG1 qSU
  have SX := Lib.hid hs
  clear n6 k6
  clear hb hs
  go_wp2_with (first | refine wpList_load_row rfl 41 (.tmp 2) rfl w.heap.size rfl 41 A (0, 0) _ G1.out Try.underlying41 rfl ia.out ?_)
  refine (LA.out wk1).mono ?_
  rintro e wk2 ⟨vl, rfl, hs, hb⟩
  have qBE := BE.out.trans (hb.mono BE.out.size)
  have qG1 := (hb.block _ (blk_lt G1.out)).trans G1.out
  have qSU := SU.out.below hb
  have qSX := SX.out.below hb
  clear BE G1 SU SX
  have BE := Lib.hid qBE
  have G1 := Lib.hid qG1
  have SU := Lib.hid qSU
  have SX := Lib.hid qSX
  clear qBE qG1 qSU qSX
  have SL := Lib.hid hs
  clear hb hs
  go_wp2_with fail
  refine (WA.out vl wk2 SL.out).mono ?_
  rintro e wk3 ⟨x2, c2, rfl, hs, hb⟩
  have qBE := BE.out.trans (hb.mono BE.out.size)
  have qG1 := (hb.block _ (blk_lt G1.out)).trans G1.out
  have qSU := SU.out.below hb
  have qSX := SX.out.below hb
  clear BE G1 SU SX
  have BE := Lib.hid qBE
  have G1 := Lib.hid qG1
  have SU := Lib.hid qSU
  have SX := Lib.hid qSX
  clear qBE qG1 qSU qSX
  have SY := Lib.hid hs
  clear hb hs SL
  go_wp2_with fail
  refine (DU.out wk3 SU.out).mono ?_
  rintro e wk4 ⟨rfl, hb⟩
  have qBE := BE.out.trans (hb.mono BE.out.size)
  have qG1 := (hb.block _ (blk_lt G1.out)).trans G1.out
  have qSU := SU.out.below hb
  have qSX := SX.out.below hb
  have qSY := SY.out.below hb
  clear BE G1 SU SX SY
  have BE := Lib.hid qBE
  have G1 := Lib.hid qG1
  have SU := Lib.hid qSU
  have SX := Lib.hid qSX
  have SY := Lib.hid qSY
  clear qBE qG1 qSU qSX qSY

  clear hb DU
  obtain ⟨wk5, hwk5⟩ : ∃ x, x = wk4.alloc (.cells C2 41) := ⟨_, rfl⟩
  have RN5 : Hid ((wk4.alloc (.cells Z 41)).setRow wk4.heap.size C2 = wk5) := by show _ = _; rw [hwk5]; exact alloc_setRowT wk4 Z C2 41 _ rfl
  have IZ5 : Hid (Z.size = C2.size) := Option.some.inj (IZ.out.symm.trans IC2.out)
  have GZ5 : Hid ((wk4.alloc (.cells Z 41)).heap[wk4.heap.size]? = some (.cells Z 41 (0, 0))) := heap_alloc_new wk4 _
  have hb : Below wk4.heap.size wk4 wk5 := by rw [hwk5]; exact (Below.refl _ _).alloc (Nat.le_refl _) _
  have q0 : wk5.heap[wk4.heap.size]? = some (.cells C2 41 (0, 0)) := by rw [hwk5]; exact heap_alloc_new wk4 _
  have qBE := BE.out.trans (hb.mono BE.out.size)
  have qG1 := (hb.block _ (blk_lt G1.out)).trans G1.out
  have qSU := SU.out.below hb
  have qSX := SX.out.below hb
  have qSY := SY.out.below hb
  clear BE G1 SU SX SY
  have BE := Lib.hid qBE
  have G1 := Lib.hid qG1
  have SU := Lib.hid qSU
  have SX := Lib.hid qSX
  have SY := Lib.hid qSY
  clear qBE qG1 qSU qSX qSY
  have GC2 := Lib.hid q0
  clear q0 hb hwk5
  go_upto_region 6 with (refine wpList_alloc_z rfl 41 rfl (HZ.out _) ?_; refine wpList_store_row rfl 41 (.tmp 9) (.tmp 31) rfl wk4.heap.size C2 rfl rfl 41 Z GZ5.out IC2.out IZ5.out OC2.out ?_; rw [RN5.out])
  go_wp2_with (first | refine wpList_load_row rfl 41 (.tmp 9) rfl wk4.heap.size rfl 41 C2 (0, 0) _ GC2.out Try.underlying41 rfl IC2.out ?_)
  refine (LB.out wk5).mono ?_
  rintro e wk6 ⟨vm, rfl, hs, hb⟩
  have qBE := BE.out.trans (hb.mono BE.out.size)
  have qG1 := (hb.block _ (blk_lt G1.out)).trans G1.out
  have qSU := SU.out.below hb
  have qSX := SX.out.below hb
  have qSY := SY.out.below hb
  have qGC2 := (hb.block _ (blk_lt GC2.out)).trans GC2.out
  clear BE G1 SU SX SY GC2
  have BE := Lib.hid qBE
  have G1 := Lib.hid qG1
  have SU := Lib.hid qSU
  have SX := Lib.hid qSX
  have SY := Lib.hid qSY
  have GC2 := Lib.hid qGC2
  clear qBE qG1 qSU qSX qSY qGC2
  have SL := Lib.hid hs
  clear hb hs
  go_wp2_with fail
  refine (WB.out vm wk6 SL.out).mono ?_
  rintro e wk7 ⟨x4, c4, rfl, hs, hb⟩
  have qBE := BE.out.trans (hb.mono BE.out.size)
  have qG1 := (hb.block _ (blk_lt G1.out)).trans G1.out
  have qSU := SU.out.below hb
  have qSX := SX.out.below hb
  have qSY := SY.out.below hb
  have qGC2 := (hb.block _ (blk_lt GC2.out)).trans GC2.out
  clear BE G1 SU SX SY GC2
  have BE := Lib.hid qBE
  have G1 := Lib.hid qG1
  have SU := Lib.hid qSU
  have SX := Lib.hid qSX
  have SY := Lib.hid qSY
  have GC2 := Lib.hid qGC2
  clear qBE qG1 qSU qSX qSY qGC2
  have SZ := Lib.hid hs
  generalize decide (md (wlp T 8) = wlp T 8) = ob
  clear hb hs SL
  clear SZ
  have cv1 := SX.out.str
  have cv2 := SY.out.str
  have AP : ((strOfNums V).toList == (strOfNums V).toList) = true := by simp
  have AN : ((strOfNums V).toList != (strOfNums V).toList) = false := by simp
  generalize strOfNums V = S0 at cv1 cv2 AP AN
  go_upto_region 9 with (fail)
  clear cv1 cv2 AP AN
  have n38 := N38.out
  have i38 := I38.out
  have j38 := J38.out
  go_wp2_with fail
  refine (AL.out wk7).mono ?_
  rintro e wk8 ⟨rfl, hb⟩
  have qBE := BE.out.trans (hb.mono BE.out.size)
  have qG1 := (hb.block _ (blk_lt G1.out)).trans G1.out
  have qSU := SU.out.below hb
  have qSX := SX.out.below hb
  have qSY := SY.out.below hb
  have qGC2 := (hb.block _ (blk_lt GC2.out)).trans GC2.out
  clear BE G1 SU SX SY GC2
  have BE := Lib.hid qBE
  have G1 := Lib.hid qG1
  have SU := Lib.hid qSU
  have SX := Lib.hid qSX
  have SY := Lib.hid qSY
  have GC2 := Lib.hid qGC2
  clear qBE qG1 qSU qSX qSY qGC2

  clear hb
  go_wp2_with (first | (refine wpList_load_met rfl 41 (.tmp 9) rfl wk4.heap.size rfl 41 C2 (0, 0) _ GC2.out Try.underlying41 ⟨_, rfl⟩ IC2.out ?_; refine wpList_blank_met rfl 41 rfl (BZ.out wk8) ?_; refine wpList_eql41 (.tmp 67) (.tmp 68) rfl rfl rfl rfl (EQ2.out wk8) ?_))
  go_ret
  exact ⟨rfl, BE.out⟩

set_option maxRecDepth 100000 in
set_option maxHeartbeats 4000000 in
theorem status_ft {L : List Int} (hl : L.length = 19) (u : Value) (xs : List Int) (h6 : xs.length ≤ 200) (w : World) (hu : Sees w u xs) (hr : wB L = false) (hk : xs.length = 38) :
    Calls Try.prog 4 #[.agg (sc L).toArray, u] w (AliveP w) := by
  have H6 := Lib.hid h6
  have ia := Lib.hid (i41 hl)
  obtain ⟨Z, hZ⟩ : ∃ Z, Z = (sc zL).toArray := ⟨_, rfl⟩
  have z := z41
  have bz := b41z
  have iz := i41 (L := zL) rfl
  rw [← hZ] at z iz bz
  have HZ := Lib.hid z
  have BZ := Lib.hid bz
  have IZ := Lib.hid iz
  obtain ⟨xu, cu, eu, xu63⟩ := hu.form
  have SU0 := Lib.hid hu
  have EA : Hid (∀ W, Calls Try.prog 15 #[.agg (sc L).toArray] W fun e w' => ∃ x cap, e = .returned (.tuple #[.slice x (wV L).length cap, .int .i64 3]) ∧ Sees w' (.slice x (wV L).length cap) (wV L) ∧ Below W.heap.size W w') := fun W => by
    have hh := writeC hl W
    unfold WriteP at hh
    rw [show wE L = 3 by rw [wE_eq, hr]; rfl] at hh
    exact hh
  have LA : Hid (∀ W, Calls Try.prog 17 #[.agg (sc L).toArray] W (ListP W L)) := fun W => listC hl W
  have WA : Hid (∀ v W, IS W v (wlp L 8) → Calls Try.prog 16 #[v] W fun e w' => ∃ x cap, e = .returned (.tuple #[.slice x (wV L).length cap, .bool false]) ∧ Sees w' (.slice x (wV L).length cap) (wV L) ∧ Below W.heap.size W w') := fun v W h => by
    have hh := wordsC v _ W h (by rw [wlp_len]; omega)
    unfold WordsP at hh
    rw [oV_eq hl, words_eq hl, hr] at hh
    exact hh
  obtain ⟨kx, kr⟩ := back38 hu.1 hk
  have DU : Hid (∀ W, Sees W u xs → Calls Try.prog 18 #[u] W fun e w' => e = .returned (.tuple #[.agg (sc (rL xs 8)).toArray, .int .i64 0]) ∧ Below W.heap.size W w') := fun W h => by
    have hh := readC u xs (by omega) W h
    unfold ReadS stL stE at hh
    rw [if_pos hk, if_pos hk] at hh
    exact hh
  have ic2 := i41 (rL_len xs 8)
  have oc2 := sc_one (rL xs 8)
  have LB : Hid (∀ W, Calls Try.prog 17 #[.agg (sc (rL xs 8)).toArray] W (ListP W (rL xs 8))) := fun W => listC (rL_len xs 8) W
  have WB : Hid (∀ v W, IS W v (wlp (rL xs 8) 8) → Calls Try.prog 16 #[v] W fun e w' => ∃ x cap, e = .returned (.tuple #[.slice x xs.length cap, .bool true]) ∧ Sees w' (.slice x xs.length cap) xs ∧ Below W.heap.size W w') := fun v W h => by
    have hh := wordsC v _ W h (by rw [wlp_len]; omega)
    unfold WordsP at hh
    rw [oV_eq (rL_len xs 8), words_eq (rL_len xs 8), kr] at hh
    unfold wV at hh
    rw [if_pos kr, kx] at hh
    exact hh
  obtain ⟨T, hT⟩ : ∃ T, T = rL xs 8 := ⟨_, rfl⟩
  rw [← hT] at DU ic2 oc2 LB WB
  clear kx kr hT
  obtain ⟨C2, hC2⟩ : ∃ C2, C2 = (sc T).toArray := ⟨_, rfl⟩
  rw [← hC2] at DU ic2 oc2 LB
  have IC2 := Lib.hid ic2
  have OC2 := Lib.hid oc2
  clear hC2 ic2 oc2
  have LE38 := Lib.hid hk
  obtain ⟨A, hA⟩ : ∃ A, A = (sc L).toArray := ⟨_, rfl⟩
  rw [← hA] at ia EA LA ⊢
  obtain ⟨w1, hw1⟩ : ∃ w1, w1 = w.alloc (.cells A 41) := ⟨_, rfl⟩
  have b1 : Below w.heap.size w w1 := by rw [hw1]; exact (Below.refl _ _).alloc (Nat.le_refl _) _
  have G1 : Hid (w1.heap[w.heap.size]? = some (.cells A 41 (0, 0))) := by show _ = _; rw [hw1]; exact heap_alloc_new w _
  have BE := Lib.hid b1
  have SU := Lib.hid (hu.below b1)
  have HW1 := Lib.hid hw1
  have AL : Hid (∀ W : World, Calls Try.prog 7 #[] W (AliveP W)) := alive
  have n6 : decide (200 < xs.length) = false := decide_eq_false (by omega)
  have k6 : ((xs.length : Nat) : Int) ≤ 200 := by omega
  subst eu
  clear H6 z bz iz hZ hw1 b1 hu hA h6 hr xu63 hl SU0
  clear hk
  generalize wV L = V at EA WA
  go_enter Try.func4, Try.ntmps4
  go_wp2_with (first | rw [← HW1.out] | refine wpList_load_row rfl 41 (.tmp 2) rfl w.heap.size rfl 41 A (0, 0) _ G1.out Try.underlying41 rfl ia.out ?_)
  refine (EA.out w1).mono ?_
  rintro e wk1 ⟨x1, c1, rfl, hs, hb⟩
  have qBE := BE.out.trans (hb.mono BE.out.size)
  have qG1 := (hb.block _ (blk_lt G1.out)).trans G1.out
  have qSU := SU.out.below hb
  clear BE G1 SU
  have BE := Lib.hid qBE
  have G1 := Lib.hid qG1
  have SU := Lib.hid qSU
  clear qBE qG1 qSU
  have SX := Lib.hid hs
  clear n6 k6
  clear hb hs
  go_wp2_with (first | refine wpList_load_row rfl 41 (.tmp 2) rfl w.heap.size rfl 41 A (0, 0) _ G1.out Try.underlying41 rfl ia.out ?_)
  refine (LA.out wk1).mono ?_
  rintro e wk2 ⟨vl, rfl, hs, hb⟩
  have qBE := BE.out.trans (hb.mono BE.out.size)
  have qG1 := (hb.block _ (blk_lt G1.out)).trans G1.out
  have qSU := SU.out.below hb
  have qSX := SX.out.below hb
  clear BE G1 SU SX
  have BE := Lib.hid qBE
  have G1 := Lib.hid qG1
  have SU := Lib.hid qSU
  have SX := Lib.hid qSX
  clear qBE qG1 qSU qSX
  have SL := Lib.hid hs
  clear hb hs
  go_wp2_with fail
  refine (WA.out vl wk2 SL.out).mono ?_
  rintro e wk3 ⟨x2, c2, rfl, hs, hb⟩
  have qBE := BE.out.trans (hb.mono BE.out.size)
  have qG1 := (hb.block _ (blk_lt G1.out)).trans G1.out
  have qSU := SU.out.below hb
  have qSX := SX.out.below hb
  clear BE G1 SU SX
  have BE := Lib.hid qBE
  have G1 := Lib.hid qG1
  have SU := Lib.hid qSU
  have SX := Lib.hid qSX
  clear qBE qG1 qSU qSX
  have SY := Lib.hid hs
  clear hb hs SL
  go_wp2_with fail
  refine (DU.out wk3 SU.out).mono ?_
  rintro e wk4 ⟨rfl, hb⟩
  have qBE := BE.out.trans (hb.mono BE.out.size)
  have qG1 := (hb.block _ (blk_lt G1.out)).trans G1.out
  have qSU := SU.out.below hb
  have qSX := SX.out.below hb
  have qSY := SY.out.below hb
  clear BE G1 SU SX SY
  have BE := Lib.hid qBE
  have G1 := Lib.hid qG1
  have SU := Lib.hid qSU
  have SX := Lib.hid qSX
  have SY := Lib.hid qSY
  clear qBE qG1 qSU qSX qSY

  clear hb DU
  obtain ⟨wk5, hwk5⟩ : ∃ x, x = wk4.alloc (.cells C2 41) := ⟨_, rfl⟩
  have RN5 : Hid ((wk4.alloc (.cells Z 41)).setRow wk4.heap.size C2 = wk5) := by show _ = _; rw [hwk5]; exact alloc_setRowT wk4 Z C2 41 _ rfl
  have IZ5 : Hid (Z.size = C2.size) := Option.some.inj (IZ.out.symm.trans IC2.out)
  have GZ5 : Hid ((wk4.alloc (.cells Z 41)).heap[wk4.heap.size]? = some (.cells Z 41 (0, 0))) := heap_alloc_new wk4 _
  have hb : Below wk4.heap.size wk4 wk5 := by rw [hwk5]; exact (Below.refl _ _).alloc (Nat.le_refl _) _
  have q0 : wk5.heap[wk4.heap.size]? = some (.cells C2 41 (0, 0)) := by rw [hwk5]; exact heap_alloc_new wk4 _
  have qBE := BE.out.trans (hb.mono BE.out.size)
  have qG1 := (hb.block _ (blk_lt G1.out)).trans G1.out
  have qSU := SU.out.below hb
  have qSX := SX.out.below hb
  have qSY := SY.out.below hb
  clear BE G1 SU SX SY
  have BE := Lib.hid qBE
  have G1 := Lib.hid qG1
  have SU := Lib.hid qSU
  have SX := Lib.hid qSX
  have SY := Lib.hid qSY
  clear qBE qG1 qSU qSX qSY
  have GC2 := Lib.hid q0
  clear q0 hb hwk5
  go_upto_region 6 with (refine wpList_alloc_z rfl 41 rfl (HZ.out _) ?_; refine wpList_store_row rfl 41 (.tmp 9) (.tmp 31) rfl wk4.heap.size C2 rfl rfl 41 Z GZ5.out IC2.out IZ5.out OC2.out ?_; rw [RN5.out])
  go_wp2_with (first | refine wpList_load_row rfl 41 (.tmp 9) rfl wk4.heap.size rfl 41 C2 (0, 0) _ GC2.out Try.underlying41 rfl IC2.out ?_)
  refine (LB.out wk5).mono ?_
  rintro e wk6 ⟨vm, rfl, hs, hb⟩
  have qBE := BE.out.trans (hb.mono BE.out.size)
  have qG1 := (hb.block _ (blk_lt G1.out)).trans G1.out
  have qSU := SU.out.below hb
  have qSX := SX.out.below hb
  have qSY := SY.out.below hb
  have qGC2 := (hb.block _ (blk_lt GC2.out)).trans GC2.out
  clear BE G1 SU SX SY GC2
  have BE := Lib.hid qBE
  have G1 := Lib.hid qG1
  have SU := Lib.hid qSU
  have SX := Lib.hid qSX
  have SY := Lib.hid qSY
  have GC2 := Lib.hid qGC2
  clear qBE qG1 qSU qSX qSY qGC2
  have SL := Lib.hid hs
  clear hb hs
  go_wp2_with fail
  refine (WB.out vm wk6 SL.out).mono ?_
  rintro e wk7 ⟨x4, c4, rfl, hs, hb⟩
  have qBE := BE.out.trans (hb.mono BE.out.size)
  have qG1 := (hb.block _ (blk_lt G1.out)).trans G1.out
  have qSU := SU.out.below hb
  have qSX := SX.out.below hb
  have qSY := SY.out.below hb
  have qGC2 := (hb.block _ (blk_lt GC2.out)).trans GC2.out
  clear BE G1 SU SX SY GC2
  have BE := Lib.hid qBE
  have G1 := Lib.hid qG1
  have SU := Lib.hid qSU
  have SX := Lib.hid qSX
  have SY := Lib.hid qSY
  have GC2 := Lib.hid qGC2
  clear qBE qG1 qSU qSX qSY qGC2
  have SZ := Lib.hid hs
  clear hb hs SL
  have cv1 := SX.out.str
  have cv2 := SY.out.str
  have AP : ((strOfNums V).toList == (strOfNums V).toList) = true := by simp
  have AN : ((strOfNums V).toList != (strOfNums V).toList) = false := by simp
  generalize strOfNums V = S0 at cv1 cv2 AP AN
  go_upto_region 9 with (fail)
  clear cv1 cv2 AP AN
  have l38 : xs.length = 38 := LE38.out
  rw [l38] at SU ⊢
  go_wp2_with fail
  refine (AL.out wk7).mono ?_
  rintro e wk8 ⟨rfl, hb⟩
  have qBE := BE.out.trans (hb.mono BE.out.size)
  have qG1 := (hb.block _ (blk_lt G1.out)).trans G1.out
  have qSU := SU.out.below hb
  have qSX := SX.out.below hb
  have qSY := SY.out.below hb
  have qGC2 := (hb.block _ (blk_lt GC2.out)).trans GC2.out
  have qSZ := SZ.out.below hb
  clear BE G1 SU SX SY GC2 SZ
  have BE := Lib.hid qBE
  have G1 := Lib.hid qG1
  have SU := Lib.hid qSU
  have SX := Lib.hid qSX
  have SY := Lib.hid qSY
  have GC2 := Lib.hid qGC2
  have SZ := Lib.hid qSZ
  clear qBE qG1 qSU qSX qSY qGC2 qSZ

  clear hb
  have cv1 := SZ.out.str
  have cv2 := SU.out.str
  rw [l38] at cv1
  clear l38
  have AP : ((strOfNums xs).toList == (strOfNums xs).toList) = true := by simp
  generalize strOfNums xs = SX1 at cv1 cv2 AP
  go_wp2
  go_ret
  exact ⟨rfl, BE.out⟩

set_option maxRecDepth 100000 in
set_option maxHeartbeats 4000000 in
theorem status_ff {L : List Int} (hl : L.length = 19) (u : Value) (xs : List Int) (h6 : xs.length ≤ 200) (w : World) (hu : Sees w u xs) (hr : wB L = false) (hk : xs.length ≠ 38) :
    Calls Try.prog 4 #[.agg (sc L).toArray, u] w (AliveP w) := by
  have H6 := Lib.hid h6
  have ia := Lib.hid (i41 hl)
  obtain ⟨Z, hZ⟩ : ∃ Z, Z = (sc zL).toArray := ⟨_, rfl⟩
  have z := z41
  have bz := b41z
  have iz := i41 (L := zL) rfl
  rw [← hZ] at z iz bz
  have HZ := Lib.hid z
  have BZ := Lib.hid bz
  have IZ := Lib.hid iz
  obtain ⟨xu, cu, eu, xu63⟩ := hu.form
  have SU0 := Lib.hid hu
  have EA : Hid (∀ W, Calls Try.prog 15 #[.agg (sc L).toArray] W fun e w' => ∃ x cap, e = .returned (.tuple #[.slice x (wV L).length cap, .int .i64 3]) ∧ Sees w' (.slice x (wV L).length cap) (wV L) ∧ Below W.heap.size W w') := fun W => by
    have hh := writeC hl W
    unfold WriteP at hh
    rw [show wE L = 3 by rw [wE_eq, hr]; rfl] at hh
    exact hh
  have LA : Hid (∀ W, Calls Try.prog 17 #[.agg (sc L).toArray] W (ListP W L)) := fun W => listC hl W
  have WA : Hid (∀ v W, IS W v (wlp L 8) → Calls Try.prog 16 #[v] W fun e w' => ∃ x cap, e = .returned (.tuple #[.slice x (wV L).length cap, .bool false]) ∧ Sees w' (.slice x (wV L).length cap) (wV L) ∧ Below W.heap.size W w') := fun v W h => by
    have hh := wordsC v _ W h (by rw [wlp_len]; omega)
    unfold WordsP at hh
    rw [oV_eq hl, words_eq hl, hr] at hh
    exact hh
  have DU : Hid (∀ W, Sees W u xs → Calls Try.prog 18 #[u] W fun e w' => e = .returned (.tuple #[.agg (sc zL).toArray, .int .i64 3]) ∧ Below W.heap.size W w') := fun W h => by
    have hh := readC u xs (by omega) W h
    unfold ReadS stL stE at hh
    rw [if_neg hk, if_neg hk] at hh
    exact hh
  have oc2 := sc_one zL
  have LB : Hid (∀ W, Calls Try.prog 17 #[.agg (sc zL).toArray] W (ListP W zL)) := fun W => listC (L := zL) rfl W
  have WB : Hid (∀ v W, IS W v (wlp zL 8) → Calls Try.prog 16 #[v] W (WordsP W (wlp zL 8))) := fun v W h => wordsC v _ W h (by rw [wlp_len]; omega)
  have EQ : Hid (∀ W, (Op.equalIn 10000 41 (.agg (sc zL).toArray) (.agg (sc zL).toArray)).run Try.prog W = .ok true W) := fun W => by
    have h := eq41 (X := zL) (Y := zL) rfl rfl W
    rwa [decide_eq_true rfl] at h
  have ic2 := i41 (L := zL) rfl
  obtain ⟨C2, hC2⟩ : ∃ C2, C2 = (sc zL).toArray := ⟨_, rfl⟩
  have EQ2 : Hid (∀ W, (Op.equalIn 10000 41 (.agg C2) (.agg Z)).run Try.prog W = .ok true W) := fun W => by rw [hC2, hZ]; exact EQ.out W
  rw [← hC2] at DU oc2 LB ic2
  have IC2 := Lib.hid ic2
  have OC2 := Lib.hid oc2
  clear EQ hC2 ic2
  obtain ⟨T, hT⟩ : ∃ T, T = zL := ⟨_, rfl⟩
  rw [← hT] at WB LB
  clear oc2 hT
  have n38 : decide (xs.length = 38) = false := decide_eq_false hk
  have j38 : ((xs.length : Nat) : Int) ≠ 38 := by omega
  have i38 : (((xs.length : Nat) : Int) != 38) = true := bne_iff_ne.2 j38
  have j382 : (xs.length == 38) = false := beq_eq_false_iff_ne.2 hk
  obtain ⟨A, hA⟩ : ∃ A, A = (sc L).toArray := ⟨_, rfl⟩
  rw [← hA] at ia EA LA ⊢
  obtain ⟨w1, hw1⟩ : ∃ w1, w1 = w.alloc (.cells A 41) := ⟨_, rfl⟩
  have b1 : Below w.heap.size w w1 := by rw [hw1]; exact (Below.refl _ _).alloc (Nat.le_refl _) _
  have G1 : Hid (w1.heap[w.heap.size]? = some (.cells A 41 (0, 0))) := by show _ = _; rw [hw1]; exact heap_alloc_new w _
  have BE := Lib.hid b1
  have SU := Lib.hid (hu.below b1)
  have HW1 := Lib.hid hw1
  have AL : Hid (∀ W : World, Calls Try.prog 7 #[] W (AliveP W)) := alive
  have n6 : decide (200 < xs.length) = false := decide_eq_false (by omega)
  have k6 : ((xs.length : Nat) : Int) ≤ 200 := by omega
  subst eu
  clear H6 z bz iz hZ hw1 b1 hu hA h6 hr xu63 hl SU0
  clear hk j38
  have N38 := Lib.hid n38
  have I38 := Lib.hid i38
  have J38 := Lib.hid j382
  clear n38 i38 j382
  generalize wV L = V at EA WA
  go_enter Try.func4, Try.ntmps4
  go_wp2_with (first | rw [← HW1.out] | refine wpList_load_row rfl 41 (.tmp 2) rfl w.heap.size rfl 41 A (0, 0) _ G1.out Try.underlying41 rfl ia.out ?_)
  refine (EA.out w1).mono ?_
  rintro e wk1 ⟨x1, c1, rfl, hs, hb⟩
  have qBE := BE.out.trans (hb.mono BE.out.size)
  have qG1 := (hb.block _ (blk_lt G1.out)).trans G1.out
  have qSU := SU.out.below hb
  clear BE G1 SU
  have BE := Lib.hid qBE
  have G1 := Lib.hid qG1
  have SU := Lib.hid qSU
  clear qBE qG1 qSU
  have SX := Lib.hid hs
  clear n6 k6
  clear hb hs
  go_wp2_with (first | refine wpList_load_row rfl 41 (.tmp 2) rfl w.heap.size rfl 41 A (0, 0) _ G1.out Try.underlying41 rfl ia.out ?_)
  refine (LA.out wk1).mono ?_
  rintro e wk2 ⟨vl, rfl, hs, hb⟩
  have qBE := BE.out.trans (hb.mono BE.out.size)
  have qG1 := (hb.block _ (blk_lt G1.out)).trans G1.out
  have qSU := SU.out.below hb
  have qSX := SX.out.below hb
  clear BE G1 SU SX
  have BE := Lib.hid qBE
  have G1 := Lib.hid qG1
  have SU := Lib.hid qSU
  have SX := Lib.hid qSX
  clear qBE qG1 qSU qSX
  have SL := Lib.hid hs
  clear hb hs
  go_wp2_with fail
  refine (WA.out vl wk2 SL.out).mono ?_
  rintro e wk3 ⟨x2, c2, rfl, hs, hb⟩
  have qBE := BE.out.trans (hb.mono BE.out.size)
  have qG1 := (hb.block _ (blk_lt G1.out)).trans G1.out
  have qSU := SU.out.below hb
  have qSX := SX.out.below hb
  clear BE G1 SU SX
  have BE := Lib.hid qBE
  have G1 := Lib.hid qG1
  have SU := Lib.hid qSU
  have SX := Lib.hid qSX
  clear qBE qG1 qSU qSX
  have SY := Lib.hid hs
  clear hb hs SL
  go_wp2_with fail
  refine (DU.out wk3 SU.out).mono ?_
  rintro e wk4 ⟨rfl, hb⟩
  have qBE := BE.out.trans (hb.mono BE.out.size)
  have qG1 := (hb.block _ (blk_lt G1.out)).trans G1.out
  have qSU := SU.out.below hb
  have qSX := SX.out.below hb
  have qSY := SY.out.below hb
  clear BE G1 SU SX SY
  have BE := Lib.hid qBE
  have G1 := Lib.hid qG1
  have SU := Lib.hid qSU
  have SX := Lib.hid qSX
  have SY := Lib.hid qSY
  clear qBE qG1 qSU qSX qSY

  clear hb DU
  obtain ⟨wk5, hwk5⟩ : ∃ x, x = wk4.alloc (.cells C2 41) := ⟨_, rfl⟩
  have RN5 : Hid ((wk4.alloc (.cells Z 41)).setRow wk4.heap.size C2 = wk5) := by show _ = _; rw [hwk5]; exact alloc_setRowT wk4 Z C2 41 _ rfl
  have IZ5 : Hid (Z.size = C2.size) := Option.some.inj (IZ.out.symm.trans IC2.out)
  have GZ5 : Hid ((wk4.alloc (.cells Z 41)).heap[wk4.heap.size]? = some (.cells Z 41 (0, 0))) := heap_alloc_new wk4 _
  have hb : Below wk4.heap.size wk4 wk5 := by rw [hwk5]; exact (Below.refl _ _).alloc (Nat.le_refl _) _
  have q0 : wk5.heap[wk4.heap.size]? = some (.cells C2 41 (0, 0)) := by rw [hwk5]; exact heap_alloc_new wk4 _
  have qBE := BE.out.trans (hb.mono BE.out.size)
  have qG1 := (hb.block _ (blk_lt G1.out)).trans G1.out
  have qSU := SU.out.below hb
  have qSX := SX.out.below hb
  have qSY := SY.out.below hb
  clear BE G1 SU SX SY
  have BE := Lib.hid qBE
  have G1 := Lib.hid qG1
  have SU := Lib.hid qSU
  have SX := Lib.hid qSX
  have SY := Lib.hid qSY
  clear qBE qG1 qSU qSX qSY
  have GC2 := Lib.hid q0
  clear q0 hb hwk5
  go_upto_region 6 with (refine wpList_alloc_z rfl 41 rfl (HZ.out _) ?_; refine wpList_store_row rfl 41 (.tmp 9) (.tmp 31) rfl wk4.heap.size C2 rfl rfl 41 Z GZ5.out IC2.out IZ5.out OC2.out ?_; rw [RN5.out])
  go_wp2_with (first | refine wpList_load_row rfl 41 (.tmp 9) rfl wk4.heap.size rfl 41 C2 (0, 0) _ GC2.out Try.underlying41 rfl IC2.out ?_)
  refine (LB.out wk5).mono ?_
  rintro e wk6 ⟨vm, rfl, hs, hb⟩
  have qBE := BE.out.trans (hb.mono BE.out.size)
  have qG1 := (hb.block _ (blk_lt G1.out)).trans G1.out
  have qSU := SU.out.below hb
  have qSX := SX.out.below hb
  have qSY := SY.out.below hb
  have qGC2 := (hb.block _ (blk_lt GC2.out)).trans GC2.out
  clear BE G1 SU SX SY GC2
  have BE := Lib.hid qBE
  have G1 := Lib.hid qG1
  have SU := Lib.hid qSU
  have SX := Lib.hid qSX
  have SY := Lib.hid qSY
  have GC2 := Lib.hid qGC2
  clear qBE qG1 qSU qSX qSY qGC2
  have SL := Lib.hid hs
  clear hb hs
  go_wp2_with fail
  refine (WB.out vm wk6 SL.out).mono ?_
  rintro e wk7 ⟨x4, c4, rfl, hs, hb⟩
  have qBE := BE.out.trans (hb.mono BE.out.size)
  have qG1 := (hb.block _ (blk_lt G1.out)).trans G1.out
  have qSU := SU.out.below hb
  have qSX := SX.out.below hb
  have qSY := SY.out.below hb
  have qGC2 := (hb.block _ (blk_lt GC2.out)).trans GC2.out
  clear BE G1 SU SX SY GC2
  have BE := Lib.hid qBE
  have G1 := Lib.hid qG1
  have SU := Lib.hid qSU
  have SX := Lib.hid qSX
  have SY := Lib.hid qSY
  have GC2 := Lib.hid qGC2
  clear qBE qG1 qSU qSX qSY qGC2
  have SZ := Lib.hid hs
  generalize decide (md (wlp T 8) = wlp T 8) = ob
  clear hb hs SL
  clear SZ
  have cv1 := SX.out.str
  have cv2 := SY.out.str
  have AP : ((strOfNums V).toList == (strOfNums V).toList) = true := by simp
  have AN : ((strOfNums V).toList != (strOfNums V).toList) = false := by simp
  generalize strOfNums V = S0 at cv1 cv2 AP AN
  go_upto_region 9 with (fail)
  clear cv1 cv2 AP AN
  have n38 := N38.out
  have i38 := I38.out
  have j38 := J38.out
  go_wp2_with fail
  refine (AL.out wk7).mono ?_
  rintro e wk8 ⟨rfl, hb⟩
  have qBE := BE.out.trans (hb.mono BE.out.size)
  have qG1 := (hb.block _ (blk_lt G1.out)).trans G1.out
  have qSU := SU.out.below hb
  have qSX := SX.out.below hb
  have qSY := SY.out.below hb
  have qGC2 := (hb.block _ (blk_lt GC2.out)).trans GC2.out
  clear BE G1 SU SX SY GC2
  have BE := Lib.hid qBE
  have G1 := Lib.hid qG1
  have SU := Lib.hid qSU
  have SX := Lib.hid qSX
  have SY := Lib.hid qSY
  have GC2 := Lib.hid qGC2
  clear qBE qG1 qSU qSX qSY qGC2

  clear hb
  go_wp2_with (first | (refine wpList_load_met rfl 41 (.tmp 9) rfl wk4.heap.size rfl 41 C2 (0, 0) _ GC2.out Try.underlying41 ⟨_, rfl⟩ IC2.out ?_; refine wpList_blank_met rfl 41 rfl (BZ.out wk8) ?_; refine wpList_eql41 (.tmp 67) (.tmp 68) rfl rfl rfl rfl (EQ2.out wk8) ?_))
  go_ret
  exact ⟨rfl, BE.out⟩
end Go.Proofs.Ytabopcfhonkecaa
