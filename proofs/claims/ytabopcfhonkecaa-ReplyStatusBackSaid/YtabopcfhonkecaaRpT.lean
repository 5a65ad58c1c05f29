/-
  The walks of ReplyStatusBack and of ReplyStatus. Condition: the arguments read as a status and as bytes.
-/
import Derived.Test.YtabopcfhonkecaaRpR
namespace Go.Proofs.Ytabopcfhonkecaa
open Go.RowKit
theorem b2s_back : ∀ (ns xs : List Int), xs.length = 2 * ns.length → Byt xs → (∀ j, j < ns.length → nth ns j = numI ((xs.drop (2 * j)).take 2)) → b2s ns = xs
  | [], xs, hl, _, _ => (List.length_eq_zero_iff.1 (by simpa using hl)).symm ▸ rfl
  | n :: ns, xs, hl, hb, hh => by
    match xs, hl, hb, hh with
    | a :: b :: r, hl, hb, hh =>
      have h0 : n = numI [a, b] := hh 0 (by simp)
      have ih := b2s_back ns r (by simp at hl; omega) (fun x hx => hb x (by simp [hx])) (fun j hj => by
        have h := hh (j + 1) (by simp; omega)
        rw [show 2 * (j + 1) = 2 * j + 2 by omega] at h
        exact h)
      show be 2 n ++ b2s ns = a :: b :: r
      rw [ih, h0, be_num2 (hb a (by simp)) (hb b (by simp))]
      rfl
theorem wlp_rL (xs : List Int) (j : Nat) (h : j < 19) : nth (wlp (rL xs 8) 8) j = rv xs j := by
  rw [wlp_at _ _ h]
  by_cases h1 : j < 3
  · rw [if_pos h1, rL_at _ _ _ h, if_pos h1]
  · rw [if_neg h1]
    by_cases h2 : j % 2 = 1
    · rw [if_pos h2, rL_at _ _ _ (by omega), if_neg (by omega), if_pos (by omega), if_pos (by omega), show 3 + 2 * (3 + (j - 3) / 2 - 3) = j by omega]
    · rw [if_neg h2, rL_at _ _ _ (by omega), if_neg (by omega), if_neg (by omega), if_pos (by omega), show 4 + 2 * (11 + (j - 3) / 2 - 11) = j by omega]
theorem back38 {xs : List Int} (hb : Byt xs) (h : xs.length = 38) : b2s (wlp (rL xs 8) 8) = xs ∧ wB (rL xs 8) = true := by
  refine ⟨b2s_back _ _ (by rw [wlp_len, h]) hb fun j hj => ?_, ?_⟩
  · rw [wlp_len] at hj
    rw [wlp_rL xs j (by omega), rv_plain _ _ (by omega)]
  · unfold wB
    refine decide_eq_true (md_good fun i hi => ?_)
    rw [rL_len] at hi
    rw [rL_at _ _ _ hi]
    have h0 := fun n => rv_bd hb n
    split
    · have := h0 i; omega
    · split
      · split
        · have := h0 (3 + 2 * (i - 3)); omega
        · omega
      · split
        · have := h0 (4 + 2 * (i - 11)); omega
        · omega
theorem wB_md {L : List Int} (h : wB L = true) : md L = L := of_decide_eq_true h
theorem words_eq {L : List Int} (hl : L.length = 19) : decide (md (wlp L 8) = wlp L 8) = wB L := by
  unfold wB
  have hw : (wlp L 8).length = 19 := wlp_len L 8
  apply decide_eq_decide.2
  constructor
  · intro e
    refine ext_nth (md_len L) fun i hi => ?_
    rw [md_len, hl] at hi
    have key : ∀ j, j < 19 → nth L (if j < 3 then j else if j % 2 = 1 then 3 + (j - 3) / 2 else 11 + (j - 3) / 2) % 65536 = nth L (if j < 3 then j else if j % 2 = 1 then 3 + (j - 3) / 2 else 11 + (j - 3) / 2) := fun j hj => by
      have h1 := nth_md (wlp L 8) j
      rw [e, wlp_at L j hj] at h1
      split
      · rename_i h; rw [if_pos h] at h1; exact h1.symm
      · rename_i h
        rw [if_neg h] at h1
        split
        · rename_i h2; rw [if_pos h2] at h1; exact h1.symm
        · rename_i h2; rw [if_neg h2] at h1; exact h1.symm
    rw [nth_md]
    by_cases h1 : i < 3
    · have := key i hi
      rwa [if_pos h1] at this
    · by_cases h2 : i < 11
      · have := key (3 + 2 * (i - 3)) (by omega)
        rwa [if_neg (by omega), if_pos (by omega), show 3 + (3 + 2 * (i - 3) - 3) / 2 = i by omega] at this
      · have := key (4 + 2 * (i - 11)) (by omega)
        rwa [if_neg (by omega), if_neg (by omega), show 11 + (4 + 2 * (i - 11) - 3) / 2 = i by omega] at this
  · intro e
    refine ext_nth (md_len _) fun j hj => ?_
    rw [md_len, hw] at hj
    have h0 : ∀ i, nth L i % 65536 = nth L i := fun i => by rw [← nth_md, e]
    rw [nth_md, wlp_at L j hj]
    split
    · exact h0 _
    · split
      · exact h0 _
      · exact h0 _
theorem oV_eq {L : List Int} (hl : L.length = 19) : oV (wlp L 8) = wV L := by
  unfold oV wV
  rw [words_eq hl]
theorem wE_eq (L : List Int) : wE L = if wB L = true then 0 else 3 := rfl

set_option maxRecDepth 100000 in
set_option maxHeartbeats 1000000 in
theorem stback_great {L : List Int} (u : Value) (xs : List Int) (w : World) (hu : Sees w u xs) (hg : 200 < xs.length) :
    Calls Try.prog 6 #[.agg (sc L).toArray, u] w (AliveP w) := by
  obtain ⟨xu, cu, rfl, xu63⟩ := hu.form
  obtain ⟨A, hA⟩ : ∃ A, A = (sc L).toArray := ⟨_, rfl⟩
  rw [← hA]
  obtain ⟨w1, hw1⟩ : ∃ w1, w1 = w.alloc (.cells A 41) := ⟨_, rfl⟩
  have b1 : Below w.heap.size w w1 := by rw [hw1]; exact (Below.refl _ _).alloc (Nat.le_refl _) _
  have BE := Lib.hid b1
  have HW1 := Lib.hid hw1
  clear hw1 b1 hA hu
  generalize xs.length = nq at *
  have n5 : decide (200 < nq) = true := decide_eq_true hg
  have k5 : (200 : Int) < (nq : Int) := by omega
  clear hg
  go_enter Try.func6, Try.ntmps6
  go_wp2_with (rw [← HW1.out])
  refine (alive _).mono ?_
  rintro e w3 ⟨rfl, hb⟩
  have B3 := Lib.hid (BE.out.trans (hb.mono BE.out.size))
  clear hb
  go_wp2_with fail
  go_ret
  exact ⟨rfl, B3.out⟩

set_option maxRecDepth 100000 in
set_option maxHeartbeats 1000000 in
theorem status_great {L : List Int} (u : Value) (xs : List Int) (w : World) (hu : Sees w u xs) (hg : 200 < xs.length) :
    Calls Try.prog 4 #[.agg (sc L).toArray, u] w (AliveP w) := by
  obtain ⟨xu, cu, rfl, xu63⟩ := hu.form
  obtain ⟨A, hA⟩ : ∃ A, A = (sc L).toArray := ⟨_, rfl⟩
  rw [← hA]
  obtain ⟨w1, hw1⟩ : ∃ w1, w1 = w.alloc (.cells A 41) := ⟨_, rfl⟩
  have b1 : Below w.heap.size w w1 := by rw [hw1]; exact (Below.refl _ _).alloc (Nat.le_refl _) _
  have BE := Lib.hid b1
  have HW1 := Lib.hid hw1
  clear hw1 b1 hA hu
  generalize xs.length = nq at *
  have n5 : decide (200 < nq) = true := decide_eq_true hg
  have k5 : (200 : Int) < (nq : Int) := by omega
  clear hg
  go_enter Try.func4, Try.ntmps4
  go_wp2_with (rw [← HW1.out])
  refine (alive _).mono ?_
  rintro e w3 ⟨rfl, hb⟩
  have B3 := Lib.hid (BE.out.trans (hb.mono BE.out.size))
  clear hb
  go_wp2_with fail
  go_ret
  exact ⟨rfl, B3.out⟩

set_option maxRecDepth 100000 in
set_option maxHeartbeats 4000000 in
theorem stback_tt {L : List Int} (hl : L.length = 19) (u : Value) (xs : List Int) (h6 : xs.length ≤ 200) (w : World) (hu : Sees w u xs) (hr : wB L = true) (hk : xs.length = 38) :
    Calls Try.prog 6 #[.agg (sc L).toArray, u] w (AliveP w) := by
  have H6 := Lib.hid h6
  have ia := Lib.hid (i41 hl)
  obtain ⟨Z, hZ⟩ : ∃ Z, Z = (sc zL).toArray := ⟨_, rfl⟩
  have z := z41
  have bz := b41z
  have iz := i41 (L := zL) rfl
  rw [← hZ] at z iz bz
  have HZ := Lib.hid z
  have BZ := Lib.hid bz
  have IZ := Lib.hid iz
  obtain ⟨xu, cu, eu, xu63⟩ := hu.form
  have SU0 := Lib.hid hu
  have EA : Hid (∀ W, Calls Try.prog 15 #[.agg (sc L).toArray] W fun e w' => ∃ x cap, e = .returned (.tuple #[.slice x (wV L).length cap, .int .i64 0]) ∧ Sees w' (.slice x (wV L).length cap) (wV L) ∧ Below W.heap.size W w') := fun W => by
    have hh := writeC hl W
    unfold WriteP at hh
    rw [show wE L = 0 by rw [wE_eq, hr]; rfl] at hh
    exact hh
  have DE : Hid (∀ v W, Sees W v (wV L) → Calls Try.prog 18 #[v] W fun e w' => e = .returned (.tuple #[.agg (sc L).toArray, .int .i64 0]) ∧ Below W.heap.size W w') := fun v W h => by
    have e1 : wV L = b2s (wlp L 8) := by unfold wV; rw [if_pos hr]
    rw [e1] at h
    have hh := readC v _ (by rw [b2s_len, wlp_len]; omega) W h
    unfold ReadS at hh
    rw [(st_back hl).1, (st_back hl).2, wB_md hr] at hh
    exact hh
  have EQ : Hid (∀ W, (Op.equalIn 10000 41 (.agg (sc L).toArray) (.agg (sc L).toArray)).run Try.prog W = .ok true W) := fun W => by
    have h := eq41 hl hl W
    rwa [decide_eq_true rfl] at h
  have OA := Lib.hid (sc_one L)
  obtain ⟨kx, kr⟩ := back38 hu.1 hk
  have DU : Hid (∀ W, Sees W u xs → Calls Try.prog 18 #[u] W fun e w' => e = .returned (.tuple #[.agg (sc (rL xs 8)).toArray, .int .i64 0]) ∧ Below W.heap.size W w') := fun W h => by
    have hh := readC u xs (by omega) W h
    unfold ReadS stL stE at hh
    rw [if_pos hk, if_pos hk] at hh
    exact hh
  have ic2 := i41 (rL_len xs 8)
  have oc2 := sc_one (rL xs 8)
  have EB : Hid (∀ W, Calls Try.prog 15 #[.agg (sc (rL xs 8)).toArray] W fun e w' => ∃ x cap, e = .returned (.tuple #[.slice x xs.length cap, .int .i64 0]) ∧ Sees w' (.slice x xs.length cap) xs ∧ Below W.heap.size W w') := fun W => by
    have hh := writeC (rL_len xs 8) W
    unfold WriteP wE wV at hh
    rw [if_pos kr, if_pos kr, kx] at hh
    exact hh
  obtain ⟨C2, hC2⟩ : ∃ C2, C2 = (sc (rL xs 8)).toArray := ⟨_, rfl⟩
  rw [← hC2] at DU ic2 oc2 EB
  have IC2 := Lib.hid ic2
  have OC2 := Lib.hid oc2
  clear hC2 ic2 oc2 kx kr
  obtain ⟨A, hA⟩ : ∃ A, A = (sc L).toArray := ⟨_, rfl⟩
  rw [← hA] at ia EA DE EQ OA ⊢
  obtain ⟨w1, hw1⟩ : ∃ w1, w1 = w.alloc (.cells A 41) := ⟨_, rfl⟩
  have b1 : Below w.heap.size w w1 := by rw [hw1]; exact (Below.refl _ _).alloc (Nat.le_refl _) _
  have G1 : Hid (w1.heap[w.heap.size]? = some (.cells A 41 (0, 0))) := by show _ = _; rw [hw1]; exact heap_alloc_new w _
  have BE := Lib.hid b1
  have SU := Lib.hid (hu.below b1)
  have HW1 := Lib.hid hw1
  have AL : Hid (∀ W : World, Calls Try.prog 7 #[] W (AliveP W)) := alive
  have n6 : decide (200 < xs.length) = false := decide_eq_false (by omega)
  have k6 : ((xs.length : Nat) : Int) ≤ 200 := by omega
  subst eu
  clear H6 z bz iz hZ hw1 b1 hu hA h6 hr hk xu63 hl SU0
  go_enter Try.func6, Try.ntmps6
  go_wp2_with (first | rw [← HW1.out] | refine wpList_load_row rfl 41 (.tmp 2) rfl w.heap.size rfl 41 A (0, 0) _ G1.out Try.underlying41 rfl ia.out ?_)
  refine (EA.out w1).mono ?_
  rintro e wk1 ⟨x1, c1, rfl, hs, hb⟩
  have qBE := BE.out.trans (hb.mono BE.out.size)
  have qG1 := (hb.block _ (blk_lt G1.out)).trans G1.out
  have qSU := SU.out.below hb
  clear BE G1 SU
  have BE := Lib.hid qBE
  have G1 := Lib.hid qG1
  have SU := Lib.hid qSU
  clear qBE qG1 qSU
  have SX := Lib.hid hs
  clear n6 k6
  clear hb hs
  go_wp2_with fail
  refine (DE.out _ wk1 SX.out).mono ?_
  rintro e wk2 ⟨rfl, hb⟩
  have qBE := BE.out.trans (hb.mono BE.out.size)
  have qG1 := (hb.block _ (blk_lt G1.out)).trans G1.out
  have qSU := SU.out.below hb
  have qSX := SX.out.below hb
  clear BE G1 SU SX
  have BE := Lib.hid qBE
  have G1 := Lib.hid qG1
  have SU := Lib.hid qSU
  have SX := Lib.hid qSX
  clear qBE qG1 qSU qSX

  clear hb SX DE
  obtain ⟨wk3, hwk3⟩ : ∃ x, x = wk2.alloc (.cells A 41) := ⟨_, rfl⟩
  have RN3 : Hid ((wk2.alloc (.cells Z 41)).setRow wk2.heap.size A = wk3) := by show _ = _; rw [hwk3]; exact alloc_setRowT wk2 Z A 41 _ rfl
  have IZ3 : Hid (Z.size = A.size) := Option.some.inj (IZ.out.symm.trans ia.out)
  have GZ3 : Hid ((wk2.alloc (.cells Z 41)).heap[wk2.heap.size]? = some (.cells Z 41 (0, 0))) := heap_alloc_new wk2 _
  have hb : Below wk2.heap.size wk2 wk3 := by rw [hwk3]; exact (Below.refl _ _).alloc (Nat.le_refl _) _
  have q0 : wk3.heap[wk2.heap.size]? = some (.cells A 41 (0, 0)) := by rw [hwk3]; exact heap_alloc_new wk2 _
  have qBE := BE.out.trans (hb.mono BE.out.size)
  have qG1 := (hb.block _ (blk_lt G1.out)).trans G1.out
  have qSU := SU.out.below hb
  clear BE G1 SU
  have BE := Lib.hid qBE
  have G1 := Lib.hid qG1
  have SU := Lib.hid qSU
  clear qBE qG1 qSU
  have GC := Lib.hid q0
  clear q0 hb hwk3
  go_upto_region 6 with (refine wpList_alloc_z rfl 41 rfl (HZ.out _) ?_; refine wpList_store_row rfl 41 (.tmp 7) (.tmp 27) rfl wk2.heap.size A rfl rfl 41 Z GZ3.out ia.out IZ3.out OA.out ?_; rw [RN3.out])
  go_upto_region 8 with (first | (refine wpList_load_met rfl 41 (.tmp 7) rfl wk2.heap.size rfl 41 A (0, 0) _ GC.out Try.underlying41 ⟨_, rfl⟩ ia.out ?_) | (refine wpList_load_met rfl 41 (.tmp 2) rfl w.heap.size rfl 41 A (0, 0) _ G1.out Try.underlying41 ⟨_, rfl⟩ ia.out ?_; refine wpList_neq41 (.tmp 32) (.tmp 33) rfl rfl rfl rfl (EQ.out wk3) ?_))
  go_wp2_with fail
  refine (DU.out wk3 SU.out).mono ?_
  rintro e wk4 ⟨rfl, hb⟩
  have qBE := BE.out.trans (hb.mono BE.out.size)
  have qG1 := (hb.block _ (blk_lt G1.out)).trans G1.out
  have qSU := SU.out.below hb
  have qGC := (hb.block _ (blk_lt GC.out)).trans GC.out
  clear BE G1 SU GC
  have BE := Lib.hid qBE
  have G1 := Lib.hid qG1
  have SU := Lib.hid qSU
  have GC := Lib.hid qGC
  clear qBE qG1 qSU qGC

  clear hb DU
  obtain ⟨wk5, hwk5⟩ : ∃ x, x = wk4.alloc (.cells C2 41) := ⟨_, rfl⟩
  have RN5 : Hid ((wk4.alloc (.cells Z 41)).setRow wk4.heap.size C2 = wk5) := by show _ = _; rw [hwk5]; exact alloc_setRowT wk4 Z C2 41 _ rfl
  have IZ5 : Hid (Z.size = C2.size) := Option.some.inj (IZ.out.symm.trans IC2.out)
  have GZ5 : Hid ((wk4.alloc (.cells Z 41)).heap[wk4.heap.size]? = some (.cells Z 41 (0, 0))) := heap_alloc_new wk4 _
  have hb : Below wk4.heap.size wk4 wk5 := by rw [hwk5]; exact (Below.refl _ _).alloc (Nat.le_refl _) _
  have q0 : wk5.heap[wk4.heap.size]? = some (.cells C2 41 (0, 0)) := by rw [hwk5]; exact heap_alloc_new wk4 _
  have qBE := BE.out.trans (hb.mono BE.out.size)
  have qG1 := (hb.block _ (blk_lt G1.out)).trans G1.out
  have qSU := SU.out.below hb
  have qGC := (hb.block _ (blk_lt GC.out)).trans GC.out
  clear BE G1 SU GC
  have BE := Lib.hid qBE
  have G1 := Lib.hid qG1
  have SU := Lib.hid qSU
  have GC := Lib.hid qGC
  clear qBE qG1 qSU qGC
  have GC2 := Lib.hid q0
  clear q0 hb hwk5
  go_upto_region 9 with (refine wpList_alloc_z rfl 41 rfl (HZ.out _) ?_; refine wpList_store_row rfl 41 (.tmp 9) (.tmp 39) rfl wk4.heap.size C2 rfl rfl 41 Z GZ5.out IC2.out IZ5.out OC2.out ?_; rw [RN5.out])
  go_wp2_with (refine wpList_load_row rfl 41 (.tmp 9) rfl wk4.heap.size rfl 41 C2 (0, 0) _ GC2.out Try.underlying41 rfl IC2.out ?_)
  refine (EB.out wk5).mono ?_
  rintro e wk6 ⟨x3, c3, rfl, hs, hb⟩
  have qBE := BE.out.trans (hb.mono BE.out.size)
  have qG1 := (hb.block _ (blk_lt G1.out)).trans G1.out
  have qSU := SU.out.below hb
  have qGC := (hb.block _ (blk_lt GC.out)).trans GC.out
  have qGC2 := (hb.block _ (blk_lt GC2.out)).trans GC2.out
  clear BE G1 SU GC GC2
  have BE := Lib.hid qBE
  have G1 := Lib.hid qG1
  have SU := Lib.hid qSU
  have GC := Lib.hid qGC
  have GC2 := Lib.hid qGC2
  clear qBE qG1 qSU qGC qGC2
  have SY := Lib.hid hs
  clear hb hs EB
  go_wp2_with fail
  refine (AL.out wk6).mono ?_
  rintro e wk7 ⟨rfl, hb⟩
  have qBE := BE.out.trans (hb.mono BE.out.size)
  have qG1 := (hb.block _ (blk_lt G1.out)).trans G1.out
  have qSU := SU.out.below hb
  have qGC := (hb.block _ (blk_lt GC.out)).trans GC.out
  have qGC2 := (hb.block _ (blk_lt GC2.out)).trans GC2.out
  have qSY := SY.out.below hb
  clear BE G1 SU GC GC2 SY
  have BE := Lib.hid qBE
  have G1 := Lib.hid qG1
  have SU := Lib.hid qSU
  have GC := Lib.hid qGC
  have GC2 := Lib.hid qGC2
  have SY := Lib.hid qSY
  clear qBE qG1 qSU qGC qGC2 qSY

  clear hb
  have cv1 := SY.out.str
  have cv2 := SU.out.str
  have AP : ((strOfNums xs).toList == (strOfNums xs).toList) = true := by simp
  generalize strOfNums xs = SX at cv1 cv2 AP
  go_wp2
  go_ret
  exact ⟨rfl, BE.out⟩

set_option maxRecDepth 100000 in
set_option maxHeartbeats 4000000 in
theorem stback_tf {L : List Int} (hl : L.length = 19) (u : Value) (xs : List Int) (h6 : xs.length ≤ 200) (w : World) (hu : Sees w u xs) (hr : wB L = true) (hk : xs.length ≠ 38) :
    Calls Try.prog 6 #[.agg (sc L).toArray, u] w (AliveP w) := by
  have H6 := Lib.hid h6
  have ia := Lib.hid (i41 hl)
  obtain ⟨Z, hZ⟩ : ∃ Z, Z = (sc zL).toArray := ⟨_, rfl⟩
  have z := z41
  have bz := b41z
  have iz := i41 (L := zL) rfl
  rw [← hZ] at z iz bz
  have HZ := Lib.hid z
  have BZ := Lib.hid bz
  have IZ := Lib.hid iz
  obtain ⟨xu, cu, eu, xu63⟩ := hu.form
  have SU0 := Lib.hid hu
  have EA : Hid (∀ W, Calls Try.prog 15 #[.agg (sc L).toArray] W fun e w' => ∃ x cap, e = .returned (.tuple #[.slice x (wV L).length cap, .int .i64 0]) ∧ Sees w' (.slice x (wV L).length cap) (wV L) ∧ Below W.heap.size W w') := fun W => by
    have hh := writeC hl W
    unfold WriteP at hh
    rw [show wE L = 0 by rw [wE_eq, hr]; rfl] at hh
    exact hh
  have DE : Hid (∀ v W, Sees W v (wV L) → Calls Try.prog 18 #[v] W fun e w' => e = .returned (.tuple #[.agg (sc L).toArray, .int .i64 0]) ∧ Below W.heap.size W w') := fun v W h => by
    have e1 : wV L = b2s (wlp L 8) := by unfold wV; rw [if_pos hr]
    rw [e1] at h
    have hh := readC v _ (by rw [b2s_len, wlp_len]; omega) W h
    unfold ReadS at hh
    rw [(st_back hl).1, (st_back hl).2, wB_md hr] at hh
    exact hh
  have EQ : Hid (∀ W, (Op.equalIn 10000 41 (.agg (sc L).toArray) (.agg (sc L).toArray)).run Try.prog W = .ok true W) := fun W => by
    have h := eq41 hl hl W
    rwa [decide_eq_true rfl] at h
  have OA := Lib.hid (sc_one L)
  have DU : Hid (∀ W, Sees W u xs → Calls Try.prog 18 #[u] W fun e w' => e = .returned (.tuple #[.agg (sc zL).toArray, .int .i64 3]) ∧ Below W.heap.size W w') := fun W h => by
    have hh := readC u xs (by omega) W h
    unfold ReadS stL stE at hh
    rw [if_neg hk, if_neg hk] at hh
    exact hh
  have oc2 := sc_one zL
  have EB : Hid (∀ W, Calls Try.prog 15 #[.agg (sc zL).toArray] W fun e w' => ∃ x cap, e = .returned (.tuple #[.slice x (wV zL).length cap, .int .i64 (wE zL)]) ∧ Sees w' (.slice x (wV zL).length cap) (wV zL) ∧ Below W.heap.size W w') := fun W => writeC (L := zL) rfl W
  rw [← hZ] at DU oc2 EB
  have IC2 := IZ
  have OC2 := Lib.hid oc2
  obtain ⟨C2, hC2⟩ : ∃ C2, C2 = Z := ⟨_, rfl⟩
  rw [← hC2] at DU IC2 OC2 EB
  generalize wE zL = ez at EB
  clear hC2 oc2
  obtain ⟨A, hA⟩ : ∃ A, A = (sc L).toArray := ⟨_, rfl⟩
  rw [← hA] at ia EA DE EQ OA ⊢
  obtain ⟨w1, hw1⟩ : ∃ w1, w1 = w.alloc (.cells A 41) := ⟨_, rfl⟩
  have b1 : Below w.heap.size w w1 := by rw [hw1]; exact (Below.refl _ _).alloc (Nat.le_refl _) _
  have G1 : Hid (w1.heap[w.heap.size]? = some (.cells A 41 (0, 0))) := by show _ = _; rw [hw1]; exact heap_alloc_new w _
  have BE := Lib.hid b1
  have SU := Lib.hid (hu.below b1)
  have HW1 := Lib.hid hw1
  have AL : Hid (∀ W : World, Calls Try.prog 7 #[] W (AliveP W)) := alive
  have n6 : decide (200 < xs.length) = false := decide_eq_false (by omega)
  have k6 : ((xs.length : Nat) : Int) ≤ 200 := by omega
  subst eu
  clear H6 z bz iz hZ hw1 b1 hu hA h6 hr hk xu63 hl SU0
  go_enter Try.func6, Try.ntmps6
  go_wp2_with (first | rw [← HW1.out] | refine wpList_load_row rfl 41 (.tmp 2) rfl w.heap.size rfl 41 A (0, 0) _ G1.out Try.underlying41 rfl ia.out ?_)
  refine (EA.out w1).mono ?_
  rintro e wk1 ⟨x1, c1, rfl, hs, hb⟩
  have qBE := BE.out.trans (hb.mono BE.out.size)
  have qG1 := (hb.block _ (blk_lt G1.out)).trans G1.out
  have qSU := SU.out.below hb
  clear BE G1 SU
  have BE := Lib.hid qBE
  have G1 := Lib.hid qG1
  have SU := Lib.hid qSU
  clear qBE qG1 qSU
  have SX := Lib.hid hs
  clear n6 k6
  clear hb hs
  go_wp2_with fail
  refine (DE.out _ wk1 SX.out).mono ?_
  rintro e wk2 ⟨rfl, hb⟩
  have qBE := BE.out.trans (hb.mono BE.out.size)
  have qG1 := (hb.block _ (blk_lt G1.out)).trans G1.out
  have qSU := SU.out.below hb
  have qSX := SX.out.below hb
  clear BE G1 SU SX
  have BE := Lib.hid qBE
  have G1 := Lib.hid qG1
  have SU := Lib.hid qSU
  have SX := Lib.hid qSX
  clear qBE qG1 qSU qSX

  clear hb SX DE
  obtain ⟨wk3, hwk3⟩ : ∃ x, x = wk2.alloc (.cells A 41) := ⟨_, rfl⟩
  have RN3 : Hid ((wk2.alloc (.cells Z 41)).setRow wk2.heap.size A = wk3) := by show _ = _; rw [hwk3]; exact alloc_setRowT wk2 Z A 41 _ rfl
  have IZ3 : Hid (Z.size = A.size) := Option.some.inj (IZ.out.symm.trans ia.out)
  have GZ3 : Hid ((wk2.alloc (.cells Z 41)).heap[wk2.heap.size]? = some (.cells Z 41 (0, 0))) := heap_alloc_new wk2 _
  have hb : Below wk2.heap.size wk2 wk3 := by rw [hwk3]; exact (Below.refl _ _).alloc (Nat.le_refl _) _
  have q0 : wk3.heap[wk2.heap.size]? = some (.cells A 41 (0, 0)) := by rw [hwk3]; exact heap_alloc_new wk2 _
  have qBE := BE.out.trans (hb.mono BE.out.size)
  have qG1 := (hb.block _ (blk_lt G1.out)).trans G1.out
  have qSU := SU.out.below hb
  clear BE G1 SU
  have BE := Lib.hid qBE
  have G1 := Lib.hid qG1
  have SU := Lib.hid qSU
  clear qBE qG1 qSU
  have GC := Lib.hid q0
  clear q0 hb hwk3
  go_upto_region 6 with (refine wpList_alloc_z rfl 41 rfl (HZ.out _) ?_; refine wpList_store_row rfl 41 (.tmp 7) (.tmp 27) rfl wk2.heap.size A rfl rfl 41 Z GZ3.out ia.out IZ3.out OA.out ?_; rw [RN3.out])
  go_upto_region 8 with (first | (refine wpList_load_met rfl 41 (.tmp 7) rfl wk2.heap.size rfl 41 A (0, 0) _ GC.out Try.underlying41 ⟨_, rfl⟩ ia.out ?_) | (refine wpList_load_met rfl 41 (.tmp 2) rfl w.heap.size rfl 41 A (0, 0) _ G1.out Try.underlying41 ⟨_, rfl⟩ ia.out ?_; refine wpList_neq41 (.tmp 32) (.tmp 33) rfl rfl rfl rfl (EQ.out wk3) ?_))
  go_wp2_with fail
  refine (DU.out wk3 SU.out).mono ?_
  rintro e wk4 ⟨rfl, hb⟩
  have qBE := BE.out.trans (hb.mono BE.out.size)
  have qG1 := (hb.block _ (blk_lt G1.out)).trans G1.out
  have qSU := SU.out.below hb
  have qGC := (hb.block _ (blk_lt GC.out)).trans GC.out
  clear BE G1 SU GC
  have BE := Lib.hid qBE
  have G1 := Lib.hid qG1
  have SU := Lib.hid qSU
  have GC := Lib.hid qGC
  clear qBE qG1 qSU qGC

  clear hb DU
  obtain ⟨wk5, hwk5⟩ : ∃ x, x = wk4.alloc (.cells C2 41) := ⟨_, rfl⟩
  have RN5 : Hid ((wk4.alloc (.cells Z 41)).setRow wk4.heap.size C2 = wk5) := by show _ = _; rw [hwk5]; exact alloc_setRowT wk4 Z C2 41 _ rfl
  have IZ5 : Hid (Z.size = C2.size) := Option.some.inj (IZ.out.symm.trans IC2.out)
  have GZ5 : Hid ((wk4.alloc (.cells Z 41)).heap[wk4.heap.size]? = some (.cells Z 41 (0, 0))) := heap_alloc_new wk4 _
  have hb : Below wk4.heap.size wk4 wk5 := by rw [hwk5]; exact (Below.refl _ _).alloc (Nat.le_refl _) _
  have q0 : wk5.heap[wk4.heap.size]? = some (.cells C2 41 (0, 0)) := by rw [hwk5]; exact heap_alloc_new wk4 _
  have qBE := BE.out.trans (hb.mono BE.out.size)
  have qG1 := (hb.block _ (blk_lt G1.out)).trans G1.out
  have qSU := SU.out.below hb
  have qGC := (hb.block _ (blk_lt GC.out)).trans GC.out
  clear BE G1 SU GC
  have BE := Lib.hid qBE
  have G1 := Lib.hid qG1
  have SU := Lib.hid qSU
  have GC := Lib.hid qGC
  clear qBE qG1 qSU qGC
  have GC2 := Lib.hid q0
  clear q0 hb hwk5
  go_upto_region 9 with (refine wpList_alloc_z rfl 41 rfl (HZ.out _) ?_; refine wpList_store_row rfl 41 (.tmp 9) (.tmp 39) rfl wk4.heap.size C2 rfl rfl 41 Z GZ5.out IC2.out IZ5.out OC2.out ?_; rw [RN5.out])
  go_wp2_with (refine wpList_load_row rfl 41 (.tmp 9) rfl wk4.heap.size rfl 41 C2 (0, 0) _ GC2.out Try.underlying41 rfl IC2.out ?_)
  refine (EB.out wk5).mono ?_
  rintro e wk6 ⟨x3, c3, rfl, hs, hb⟩
  have qBE := BE.out.trans (hb.mono BE.out.size)
  have qG1 := (hb.block _ (blk_lt G1.out)).trans G1.out
  have qSU := SU.out.below hb
  have qGC := (hb.block _ (blk_lt GC.out)).trans GC.out
  have qGC2 := (hb.block _ (blk_lt GC2.out)).trans GC2.out
  clear BE G1 SU GC GC2
  have BE := Lib.hid qBE
  have G1 := Lib.hid qG1
  have SU := Lib.hid qSU
  have GC := Lib.hid qGC
  have GC2 := Lib.hid qGC2
  clear qBE qG1 qSU qGC qGC2
  have SY := Lib.hid hs
  clear hb hs EB
  go_wp2_with fail
  refine (AL.out wk6).mono ?_
  rintro e wk7 ⟨rfl, hb⟩
  have qBE := BE.out.trans (hb.mono BE.out.size)
  have qG1 := (hb.block _ (blk_lt G1.out)).trans G1.out
  have qSU := SU.out.below hb
  have qGC := (hb.block _ (blk_lt GC.out)).trans GC.out
  have qGC2 := (hb.block _ (blk_lt GC2.out)).trans GC2.out
  have qSY := SY.out.below hb
  clear BE G1 SU GC GC2 SY
  have BE := Lib.hid qBE
  have G1 := Lib.hid qG1
  have SU := Lib.hid qSU
  have GC := Lib.hid qGC
  have GC2 := Lib.hid qGC2
  have SY := Lib.hid qSY
  clear qBE qG1 qSU qGC qGC2 qSY

  clear hb
  go_wp2
  go_ret
  exact ⟨rfl, BE.out⟩

set_option maxRecDepth 100000 in
set_option maxHeartbeats 4000000 in
theorem stback_ft {L : List Int} (hl : L.length = 19) (u : Value) (xs : List Int) (h6 : xs.length ≤ 200) (w : World) (hu : Sees w u xs) (hr : wB L = false) (hk : xs.length = 38) :
    Calls Try.prog 6 #[.agg (sc L).toArray, u] w (AliveP w) := by
  have H6 := Lib.hid h6
  have ia := Lib.hid (i41 hl)
  obtain ⟨Z, hZ⟩ : ∃ Z, Z = (sc zL).toArray := ⟨_, rfl⟩
  have z := z41
  have bz := b41z
  have iz := i41 (L := zL) rfl
  rw [← hZ] at z iz bz
  have HZ := Lib.hid z
  have BZ := Lib.hid bz
  have IZ := Lib.hid iz
  obtain ⟨xu, cu, eu, xu63⟩ := hu.form
  have SU0 := Lib.hid hu
  have EA : Hid (∀ W, Calls Try.prog 15 #[.agg (sc L).toArray] W fun e w' => ∃ x cap, e = .returned (.tuple #[.slice x (wV L).length cap, .int .i64 3]) ∧ Sees w' (.slice x (wV L).length cap) (wV L) ∧ Below W.heap.size W w') := fun W => by
    have hh := writeC hl W
    unfold WriteP at hh
    rw [show wE L = 3 by rw [wE_eq, hr]; rfl] at hh
    exact hh
  obtain ⟨kx, kr⟩ := back38 hu.1 hk
  have DU : Hid (∀ W, Sees W u xs → Calls Try.prog 18 #[u] W fun e w' => e = .returned (.tuple #[.agg (sc (rL xs 8)).toArray, .int .i64 0]) ∧ Below W.heap.size W w') := fun W h => by
    have hh := readC u xs (by omega) W h
    unfold ReadS stL stE at hh
    rw [if_pos hk, if_pos hk] at hh
    exact hh
  have ic2 := i41 (rL_len xs 8)
  have oc2 := sc_one (rL xs 8)
  have EB : Hid (∀ W, Calls Try.prog 15 #[.agg (sc (rL xs 8)).toArray] W fun e w' => ∃ x cap, e = .returned (.tuple #[.slice x xs.length cap, .int .i64 0]) ∧ Sees w' (.slice x xs.length cap) xs ∧ Below W.heap.size W w') := fun W => by
    have hh := writeC (rL_len xs 8) W
    unfold WriteP wE wV at hh
    rw [if_pos kr, if_pos kr, kx] at hh
    exact hh
  obtain ⟨C2, hC2⟩ : ∃ C2, C2 = (sc (rL xs 8)).toArray := ⟨_, rfl⟩
  rw [← hC2] at DU ic2 oc2 EB
  have IC2 := Lib.hid ic2
  have OC2 := Lib.hid oc2
  clear hC2 ic2 oc2 kx kr
  obtain ⟨A, hA⟩ : ∃ A, A = (sc L).toArray := ⟨_, rfl⟩
  rw [← hA] at ia EA ⊢
  obtain ⟨w1, hw1⟩ : ∃ w1, w1 = w.alloc (.cells A 41) := ⟨_, rfl⟩
  have b1 : Below w.heap.size w w1 := by rw [hw1]; exact (Below.refl _ _).alloc (Nat.le_refl _) _
  have G1 : Hid (w1.heap[w.heap.size]? = some (.cells A 41 (0, 0))) := by show _ = _; rw [hw1]; exact heap_alloc_new w _
  have BE := Lib.hid b1
  have SU := Lib.hid (hu.below b1)
  have HW1 := Lib.hid hw1
  have AL : Hid (∀ W : World, Calls Try.prog 7 #[] W (AliveP W)) := alive
  have n6 : decide (200 < xs.length) = false := decide_eq_false (by omega)
  have k6 : ((xs.length : Nat) : Int) ≤ 200 := by omega
  subst eu
  clear H6 z bz iz hZ hw1 b1 hu hA h6 hr hk xu63 hl SU0
  go_enter Try.func6, Try.ntmps6
  go_wp2_with (first | rw [← HW1.out] | refine wpList_load_row rfl 41 (.tmp 2) rfl w.heap.size rfl 41 A (0, 0) _ G1.out Try.underlying41 rfl ia.out ?_)
  refine (EA.out w1).mono ?_
  rintro e wk1 ⟨x1, c1, rfl, hs, hb⟩
  have qBE := BE.out.trans (hb.mono BE.out.size)
  have qG1 := (hb.block _ (blk_lt G1.out)).trans G1.out
  have qSU := SU.out.below hb
  clear BE G1 SU
  have BE := Lib.hid qBE
  have G1 := Lib.hid qG1
  have SU := Lib.hid qSU
  clear qBE qG1 qSU
  have SX := Lib.hid hs
  clear n6 k6
  clear hb hs
  clear SX
  go_wp2_with fail
  refine (DU.out wk1 SU.out).mono ?_
  rintro e wk2 ⟨rfl, hb⟩
  have qBE := BE.out.trans (hb.mono BE.out.size)
  have qG1 := (hb.block _ (blk_lt G1.out)).trans G1.out
  have qSU := SU.out.below hb
  clear BE G1 SU
  have BE := Lib.hid qBE
  have G1 := Lib.hid qG1
  have SU := Lib.hid qSU
  clear qBE qG1 qSU

  clear hb DU
  obtain ⟨wk3, hwk3⟩ : ∃ x, x = wk2.alloc (.cells C2 41) := ⟨_, rfl⟩
  have RN3 : Hid ((wk2.alloc (.cells Z 41)).setRow wk2.heap.size C2 = wk3) := by show _ = _; rw [hwk3]; exact alloc_setRowT wk2 Z C2 41 _ rfl
  have IZ3 : Hid (Z.size = C2.size) := Option.some.inj (IZ.out.symm.trans IC2.out)
  have GZ3 : Hid ((wk2.alloc (.cells Z 41)).heap[wk2.heap.size]? = some (.cells Z 41 (0, 0))) := heap_alloc_new wk2 _
  have hb : Below wk2.heap.size wk2 wk3 := by rw [hwk3]; exact (Below.refl _ _).alloc (Nat.le_refl _) _
  have q0 : wk3.heap[wk2.heap.size]? = some (.cells C2 41 (0, 0)) := by rw [hwk3]; exact heap_alloc_new wk2 _
  have qBE := BE.out.trans (hb.mono BE.out.size)
  have qG1 := (hb.block _ (blk_lt G1.out)).trans G1.out
  have qSU := SU.out.below hb
  clear BE G1 SU
  have BE := Lib.hid qBE
  have G1 := Lib.hid qG1
  have SU := Lib.hid qSU
  clear qBE qG1 qSU
  have GC2 := Lib.hid q0
  clear q0 hb hwk3
  go_upto_region 9 with (refine wpList_alloc_z rfl 41 rfl (HZ.out _) ?_; refine wpList_store_row rfl 41 (.tmp 9) (.tmp 39) rfl wk2.heap.size C2 rfl rfl 41 Z GZ3.out IC2.out IZ3.out OC2.out ?_; rw [RN3.out])
  go_wp2_with (refine wpList_load_row rfl 41 (.tmp 9) rfl wk2.heap.size rfl 41 C2 (0, 0) _ GC2.out Try.underlying41 rfl IC2.out ?_)
  refine (EB.out wk3).mono ?_
  rintro e wk4 ⟨x3, c3, rfl, hs, hb⟩
  have qBE := BE.out.trans (hb.mono BE.out.size)
  have qG1 := (hb.block _ (blk_lt G1.out)).trans G1.out
  have qSU := SU.out.below hb
  have qGC2 := (hb.block _ (blk_lt GC2.out)).trans GC2.out
  clear BE G1 SU GC2
  have BE := Lib.hid qBE
  have G1 := Lib.hid qG1
  have SU := Lib.hid qSU
  have GC2 := Lib.hid qGC2
  clear qBE qG1 qSU qGC2
  have SY := Lib.hid hs
  clear hb hs EB
  go_wp2_with fail
  refine (AL.out wk4).mono ?_
  rintro e wk5 ⟨rfl, hb⟩
  have qBE := BE.out.trans (hb.mono BE.out.size)
  have qG1 := (hb.block _ (blk_lt G1.out)).trans G1.out
  have qSU := SU.out.below hb
  have qGC2 := (hb.block _ (blk_lt GC2.out)).trans GC2.out
  have qSY := SY.out.below hb
  clear BE G1 SU GC2 SY
  have BE := Lib.hid qBE
  have G1 := Lib.hid qG1
  have SU := Lib.hid qSU
  have GC2 := Lib.hid qGC2
  have SY := Lib.hid qSY
  clear qBE qG1 qSU qGC2 qSY

  clear hb
  have cv1 := SY.out.str
  have cv2 := SU.out.str
  have AP : ((strOfNums xs).toList == (strOfNums xs).toList) = true := by simp
  generalize strOfNums xs = SX at cv1 cv2 AP
  go_wp2
  go_ret
  exact ⟨rfl, BE.out⟩

set_option maxRecDepth 100000 in
set_option maxHeartbeats 4000000 in
theorem stback_ff {L : List Int} (hl : L.length = 19) (u : Value) (xs : List Int) (h6 : xs.length ≤ 200) (w : World) (hu : Sees w u xs) (hr : wB L = false) (hk : xs.length ≠ 38) :
    Calls Try.prog 6 #[.agg (sc L).toArray, u] w (AliveP w) := by
  have H6 := Lib.hid h6
  have ia := Lib.hid (i41 hl)
  obtain ⟨Z, hZ⟩ : ∃ Z, Z = (sc zL).toArray := ⟨_, rfl⟩
  have z := z41
  have bz := b41z
  have iz := i41 (L := zL) rfl
  rw [← hZ] at z iz bz
  have HZ := Lib.hid z
  have BZ := Lib.hid bz
  have IZ := Lib.hid iz
  obtain ⟨xu, cu, eu, xu63⟩ := hu.form
  have SU0 := Lib.hid hu
  have EA : Hid (∀ W, Calls Try.prog 15 #[.agg (sc L).toArray] W fun e w' => ∃ x cap, e = .returned (.tuple #[.slice x (wV L).length cap, .int .i64 3]) ∧ Sees w' (.slice x (wV L).length cap) (wV L) ∧ Below W.heap.size W w') := fun W => by
    have hh := writeC hl W
    unfold WriteP at hh
    rw [show wE L = 3 by rw [wE_eq, hr]; rfl] at hh
    exact hh
  have DU : Hid (∀ W, Sees W u xs → Calls Try.prog 18 #[u] W fun e w' => e = .returned (.tuple #[.agg (sc zL).toArray, .int .i64 3]) ∧ Below W.heap.size W w') := fun W h => by
    have hh := readC u xs (by omega) W h
    unfold ReadS stL stE at hh
    rw [if_neg hk, if_neg hk] at hh
    exact hh
  have oc2 := sc_one zL
  have EB : Hid (∀ W, Calls Try.prog 15 #[.agg (sc zL).toArray] W fun e w' => ∃ x cap, e = .returned (.tuple #[.slice x (wV zL).length cap, .int .i64 (wE zL)]) ∧ Sees w' (.slice x (wV zL).length cap) (wV zL) ∧ Below W.heap.size W w') := fun W => writeC (L := zL) rfl W
  rw [← hZ] at DU oc2 EB
  have IC2 := IZ
  have OC2 := Lib.hid oc2
  obtain ⟨C2, hC2⟩ : ∃ C2, C2 = Z := ⟨_, rfl⟩
  rw [← hC2] at DU IC2 OC2 EB
  generalize wE zL = ez at EB
  clear hC2 oc2
  obtain ⟨A, hA⟩ : ∃ A, A = (sc L).toArray := ⟨_, rfl⟩
  rw [← hA] at ia EA ⊢
  obtain ⟨w1, hw1⟩ : ∃ w1, w1 = w.alloc (.cells A 41) := ⟨_, rfl⟩
  have b1 : Below w.heap.size w w1 := by rw [hw1]; exact (Below.refl _ _).alloc (Nat.le_refl _) _
  have G1 : Hid (w1.heap[w.heap.size]? = some (.cells A 41 (0, 0))) := by show _ = _; rw [hw1]; exact heap_alloc_new w _
  have BE := Lib.hid b1
  have SU := Lib.hid (hu.below b1)
  have HW1 := Lib.hid hw1
  have AL : Hid (∀ W : World, Calls Try.prog 7 #[] W (AliveP W)) := alive
  have n6 : decide (200 < xs.length) = false := decide_eq_false (by omega)
  have k6 : ((xs.length : Nat) : Int) ≤ 200 := by omega
  subst eu
  clear H6 z bz iz hZ hw1 b1 hu hA h6 hr hk xu63 hl SU0
  go_enter Try.func6, Try.ntmps6
  go_wp2_with (first | rw [← HW1.out] | refine wpList_load_row rfl 41 (.tmp 2) rfl w.heap.size rfl 41 A (0, 0) _ G1.out Try.underlying41 rfl ia.out ?_)
  refine (EA.out w1).mono ?_
  rintro e wk1 ⟨x1, c1, rfl, hs, hb⟩
  have qBE := BE.out.trans (hb.mono BE.out.size)
  have qG1 := (hb.block _ (blk_lt G1.out)).trans G1.out
  have qSU := SU.out.below hb
  clear BE G1 SU
  have BE := Lib.hid qBE
  have G1 := Lib.hid qG1
  have SU := Lib.hid qSU
  clear qBE qG1 qSU
  have SX := Lib.hid hs
  clear n6 k6
  clear hb hs
  clear SX
  go_wp2_with fail
  refine (DU.out wk1 SU.out).mono ?_
  rintro e wk2 ⟨rfl, hb⟩
  have qBE := BE.out.trans (hb.mono BE.out.size)
  have qG1 := (hb.block _ (blk_lt G1.out)).trans G1.out
  have qSU := SU.out.below hb
  clear BE G1 SU
  have BE := Lib.hid qBE
  have G1 := Lib.hid qG1
  have SU := Lib.hid qSU
  clear qBE qG1 qSU

  clear hb DU
  obtain ⟨wk3, hwk3⟩ : ∃ x, x = wk2.alloc (.cells C2 41) := ⟨_, rfl⟩
  have RN3 : Hid ((wk2.alloc (.cells Z 41)).setRow wk2.heap.size C2 = wk3) := by show _ = _; rw [hwk3]; exact alloc_setRowT wk2 Z C2 41 _ rfl
  have IZ3 : Hid (Z.size = C2.size) := Option.some.inj (IZ.out.symm.trans IC2.out)
  have GZ3 : Hid ((wk2.alloc (.cells Z 41)).heap[wk2.heap.size]? = some (.cells Z 41 (0, 0))) := heap_alloc_new wk2 _
  have hb : Below wk2.heap.size wk2 wk3 := by rw [hwk3]; exact (Below.refl _ _).alloc (Nat.le_refl _) _
  have q0 : wk3.heap[wk2.heap.size]? = some (.cells C2 41 (0, 0)) := by rw [hwk3]; exact heap_alloc_new wk2 _
  have qBE := BE.out.trans (hb.mono BE.out.size)
  have qG1 := (hb.block _ (blk_lt G1.out)).trans G1.out
  have qSU := SU.out.below hb
  clear BE G1 SU
  have BE := Lib.hid qBE
  have G1 := Lib.hid qG1
  have SU := Lib.hid qSU
  clear qBE qG1 qSU
  have GC2 := Lib.hid q0
  clear q0 hb hwk3
  go_upto_region 9 with (refine wpList_alloc_z rfl 41 rfl (HZ.out _) ?_; refine wpList_store_row rfl 41 (.tmp 9) (.tmp 39) rfl wk2.heap.size C2 rfl rfl 41 Z GZ3.out IC2.out IZ3.out OC2.out ?_; rw [RN3.out])
  go_wp2_with (refine wpList_load_row rfl 41 (.tmp 9) rfl wk2.heap.size rfl 41 C2 (0, 0) _ GC2.out Try.underlying41 rfl IC2.out ?_)
  refine (EB.out wk3).mono ?_
  rintro e wk4 ⟨x3, c3, rfl, hs, hb⟩
  have qBE := BE.out.trans (hb.mono BE.out.size)
  have qG1 := (hb.block _ (blk_lt G1.out)).trans G1.out
  have qSU := SU.out.below hb
  have qGC2 := (hb.block _ (blk_lt GC2.out)).trans GC2.out
  clear BE G1 SU GC2
  have BE := Lib.hid qBE
  have G1 := Lib.hid qG1
  have SU := Lib.hid qSU
  have GC2 := Lib.hid qGC2
  clear qBE qG1 qSU qGC2
  have SY := Lib.hid hs
  clear hb hs EB
  go_wp2_with fail
  refine (AL.out wk4).mono ?_
  rintro e wk5 ⟨rfl, hb⟩
  have qBE := BE.out.trans (hb.mono BE.out.size)
  have qG1 := (hb.block _ (blk_lt G1.out)).trans G1.out
  have qSU := SU.out.below hb
  have qGC2 := (hb.block _ (blk_lt GC2.out)).trans GC2.out
  have qSY := SY.out.below hb
  clear BE G1 SU GC2 SY
  have BE := Lib.hid qBE
  have G1 := Lib.hid qG1
  have SU := Lib.hid qSU
  have GC2 := Lib.hid qGC2
  have SY := Lib.hid qSY
  clear qBE qG1 qSU qGC2 qSY

  clear hb
  go_wp2
  go_ret
  exact ⟨rfl, BE.out⟩
end Go.Proofs.Ytabopcfhonkecaa
