/-
  The walk of ReplyBack. Condition: the arguments read as a reply and as bytes.
-/
import Derived.Test.YtabopcfhonkecaaRpM
namespace Go.Proofs.Ytabopcfhonkecaa
open Go.RowKit
theorem be_num2 {a b : Int} (ha : 0 ≤ a ∧ a ≤ 255) (hb : 0 ≤ b ∧ b ≤ 255) : be 2 (numI [a, b]) = [a, b] := by
  rw [numI_two]
  simp only [be, List.nil_append, List.cons_append]
  rw [show (a * 256 + b) / 256 % 256 = a by omega, show (a * 256 + b) % 256 = b by omega]
theorem be_num4 {a b c d : Int} (ha : 0 ≤ a ∧ a ≤ 255) (hb : 0 ≤ b ∧ b ≤ 255) (hc : 0 ≤ c ∧ c ≤ 255) (hd : 0 ≤ d ∧ d ≤ 255) : be 4 (numI [a, b, c, d]) = [a, b, c, d] := by
  rw [numI_four]
  simp only [be, List.nil_append, List.cons_append]
  rw [show (((a * 256 + b) * 256 + c) * 256 + d) / 256 / 256 / 256 % 256 = a by omega, show (((a * 256 + b) * 256 + c) * 256 + d) / 256 / 256 % 256 = b by omega, show (((a * 256 + b) * 256 + c) * 256 + d) / 256 % 256 = c by omega, show (((a * 256 + b) * 256 + c) * 256 + d) % 256 = d by omega]
theorem dec_six {xs : List Int} (h : decB xs = true) : 6 ≤ xs.length := by
  rcases Nat.lt_or_ge xs.length 6 with h6 | h6
  · rw [rd_short h6] at h; cases h
  · exact h6
theorem enc_dec {xs : List Int} (hb : Byt xs) (h : decB xs = true) : encL (rP xs) = xs ∧ mayB (rP xs) = true := by
  have h6 := dec_six h
  refine ⟨?_, ?_⟩
  · obtain ⟨h1, h2, h3, _⟩ := rd_long h6
    show be 2 (rE xs) ++ (be 4 (rN xs) ++ rD xs) = xs
    rw [h1, h2, h3]
    obtain ⟨a, b, c, d, e, f, r, rfl⟩ := form6 h6
    show be 2 (numI [a, b]) ++ (be 4 (numI [c, d, e, f]) ++ r) = _
    rw [be_num2 (hb a (by simp)) (hb b (by simp)), be_num4 (hb c (by simp)) (hb d (by simp)) (hb e (by simp)) (hb f (by simp))]
    rfl
  · unfold decB at h
    simp only [Bool.and_eq_true] at h
    exact h.2
theorem encL_len (p : Ry) : (encL p).length = 6 + p.d.length := by
  unfold encL
  rw [List.length_append, List.length_append, be_len, be_len]; omega
theorem dec_enc {p : Ry} (h : mayB p = true) : rP (encL p) = p ∧ decB (encL p) = true := by
  obtain ⟨e0, e1, n0, n1, l1⟩ := may_bd h
  have h6 : 6 ≤ (encL p).length := by rw [encL_len]; omega
  obtain ⟨h1, h2, h3, h4⟩ := rd_long h6
  have hp : rP (encL p) = p := by
    unfold rP
    rw [h1, h2, h3]
    have t1 : (encL p).take 2 = be 2 p.e := List.take_left' (be_len 2 _)
    have d1 : (encL p).drop 2 = be 4 p.n ++ p.d := List.drop_left' (be_len 2 _)
    have d2 : (encL p).drop 6 = p.d := by
      rw [show 6 = 2 + 4 from rfl, ← List.drop_drop, d1]
      exact List.drop_left' (be_len 4 _)
    rw [t1, d1, d2, List.take_left' (be_len 4 _), numI_be 2 p.e e0 (by have : (256 : Int) ^ 2 = 65536 := by decide
                                                                       omega), numI_be 4 p.n n0 (by have : (256 : Int) ^ 4 = 4294967296 := by decide
                                                                                                    omega)]
  refine ⟨hp, ?_⟩
  unfold decB
  rw [h4, hp, h]
  rfl
theorem encV_yes {p : Ry} (h : mayB p = true) : encV p = encL p ∧ encE p = 0 := by unfold encV encE; rw [if_pos h, if_pos h]; exact ⟨rfl, rfl⟩
theorem encE_no {p : Ry} (h : mayB p = false) : encE p = 3 := by unfold encE; rw [h]; rfl
theorem sameB_refl (p : Ry) : sameB p p = true := by simp [sameB]
/-- Decode of what Encode told. -/
theorem decode_enc {p : Ry} (h5 : p.d.length ≤ 5000) (h : mayB p = true) (v : Value) (w : World) (hs : Sees w v (encV p)) :
    Calls Try.prog 11 #[v] w fun e w' => ∃ dv, e = .returned (.tuple #[.agg (rc p dv).toArray, .int .i64 0]) ∧ Sees w' dv p.d ∧ Below w.heap.size w w' := by
  rw [(encV_yes h).1] at hs
  refine (decodeC v _ (by rw [encL_len]; omega) w hs).mono fun e w' hh => ?_
  obtain ⟨dv, he, h2, _, h4⟩ := hh
  obtain ⟨h1, h3⟩ := dec_enc h
  have e1 : decP (encL p) = p := by unfold decP; rw [if_pos h3, h1]
  have e0 : decE (encL p) = 0 := by unfold decE; rw [if_pos h3]
  rw [e1, e0] at he
  rw [e1] at h2
  exact ⟨dv, he, h2, h4⟩

set_option maxRecDepth 100000 in
set_option maxHeartbeats 2000000 in
theorem back_tt {p : Ry} (h5 : p.d.length ≤ 5000) (dv : Value) (u : Value) (xs : List Int) (h6 : xs.length ≤ 5000) (w : World) (hd : Sees w dv p.d) (hu : Sees w u xs) (hr : mayB p = true) (hk : decB xs = true) :
    Calls Try.prog 5 #[.agg (rc p dv).toArray, u] w (AliveP w) := by
  have ia := Lib.hid (i25 p dv)
  obtain ⟨A, hA⟩ : ∃ A, A = (rc p dv).toArray := ⟨_, rfl⟩
  rw [← hA] at ia ⊢
  obtain ⟨Z, hZ⟩ : ∃ Z, Z = (rc ⟨0, 0, []⟩ (.slice none 0 0)).toArray := ⟨_, rfl⟩
  have z := z25
  rw [← hZ] at z
  have HZ := Lib.hid z
  have IZ : Hid ((Try.prog.info? 25).map (·.size) = some Z.size) := by show _ = _; rw [hZ]; exact i25 _ _
  obtain ⟨xa, ca, ea, xa63⟩ := hd.form
  obtain ⟨xu, cu, eu, xu63⟩ := hu.form
  obtain ⟨w1, hw1⟩ : ∃ w1, w1 = w.alloc (.cells A 25) := ⟨_, rfl⟩
  have b1 : Below w.heap.size w w1 := by rw [hw1]; exact (Below.refl _ _).alloc (Nat.le_refl _) _
  have g1 : w1.heap[w.heap.size]? = some (.cells A 25 (0, 0)) := by rw [hw1]; exact heap_alloc_new w _
  have ca0 : w1.cell? ⟨w.heap.size, 2, none⟩ = some (.slice xa p.d.length ca) := by rw [← ea]; rw [hA] at g1; exact (row_rc g1).2.2
  have BE := Lib.hid b1
  have G1 := Lib.hid g1
  have SU := Lib.hid (hu.below b1)
  have HW1 := Lib.hid hw1
  have EA : Hid (∀ W, Below w.heap.size w W → Calls Try.prog 8 #[.agg A] W (EncP W p)) := fun W h => by rw [hA]; exact encodeC h5 dv W (hd.below h)
  have DU : Hid (∀ W, Sees W u xs → Calls Try.prog 11 #[u] W (DecP W xs)) := fun W h => decodeC u xs (by omega) W h
  have DE : Hid (∀ v W, Sees W v (encV p) → Calls Try.prog 11 #[v] W fun e w' => ∃ du, e = .returned (.tuple #[.agg (rc p du).toArray, .int .i64 0]) ∧ Sees w' du p.d ∧ Below W.heap.size W w') := fun v W h => decode_enc h5 hr v W h
  have IP : Hid (∀ du : Value, (Try.prog.info? 25).map (·.size) = some (rc p du).toArray.size) := fun du => i25 p du
  have SM : Hid (∀ du W, Below w.heap.size w W → Sees W du p.d → Calls Try.prog 13 #[.agg (rc p du).toArray, .agg A] W fun e w' => e = .returned (.bool true) ∧ Below W.heap.size W w') := fun du W h hs => by
    rw [hA, ← sameB_refl p]
    exact sameC du dv W hs (hd.below h)
  have e0 := (encV_yes hr).2
  obtain ⟨kx, kr⟩ := enc_dec hu.1 hk
  have kl : (rP xs).d.length ≤ 5000 := by
    show (rD xs).length ≤ 5000
    rw [(rd_long (dec_six hk)).2.2.1, List.length_drop]; omega
  have kP : decP xs = rP xs := by unfold decP; rw [if_pos hk]
  have kE : decE xs = 0 := by unfold decE; rw [if_pos hk]
  have EB : Hid (∀ du W, Sees W du (rP xs).d → Calls Try.prog 8 #[.agg (rc (rP xs) du).toArray] W fun e w' => ∃ x cap, e = .returned (.tuple #[.slice x xs.length cap, .int .i64 0]) ∧ Sees w' (.slice x xs.length cap) xs ∧ Below W.heap.size W w') := fun du W h => by
    refine (encodeC kl du W h).mono fun e w' hh => ?_
    obtain ⟨x, cap, h1, h2, h3⟩ := hh
    rw [(encV_yes kr).1, (encV_yes kr).2, kx] at h1
    rw [(encV_yes kr).1, kx] at h2
    exact ⟨x, cap, h1, h2, h3⟩
  have KP := Lib.hid kP
  have KE := Lib.hid kE
  have E0 := Lib.hid e0
  have AL : Hid (∀ W : World, Calls Try.prog 7 #[] W (AliveP W)) := alive
  have n5 : decide (5000 < p.d.length) = false := decide_eq_false (by omega)
  have n6 : decide (5000 < xs.length) = false := decide_eq_false (by omega)
  have k5 : ((p.d.length : Nat) : Int) ≤ 5000 := by omega
  have k6 : ((xs.length : Nat) : Int) ≤ 5000 := by omega
  subst eu
  clear z hZ hw1 b1 g1 hd hu hA ea h5 h6 hr hk e0 kP kE xa63 xu63 kx kl kr
  generalize p.d.length = np at n5 k5 ca0
  go_enter Try.func5, Try.ntmps5
  go_wp2_with (first | rw [← HW1.out] | refine wpList_load_row rfl 25 (.tmp 2) rfl w.heap.size rfl 25 A (0, 0) _ G1.out Try.underlying25 rfl ia.out ?_)
  refine (EA.out w1 BE.out).mono ?_
  rintro e wk1 ⟨x1, c1, rfl, hs, hb⟩
  have qBE := BE.out.trans (hb.mono BE.out.size)
  have qG1 := (hb.block _ (blk_lt G1.out)).trans G1.out
  have qSU := SU.out.below hb
  clear BE G1 SU
  have BE := Lib.hid qBE
  have G1 := Lib.hid qG1
  have SU := Lib.hid qSU
  clear qBE qG1 qSU
  rw [E0.out]
  have SX := Lib.hid hs
  clear n5 k5 ca0
  clear hb hs
  go_wp2_with fail
  refine (DE.out _ wk1 SX.out).mono ?_
  rintro e wk2 ⟨du, rfl, hs, hb⟩
  have qBE := BE.out.trans (hb.mono BE.out.size)
  have qG1 := (hb.block _ (blk_lt G1.out)).trans G1.out
  have qSU := SU.out.below hb
  have qSX := SX.out.below hb
  clear BE G1 SU SX
  have BE := Lib.hid qBE
  have G1 := Lib.hid qG1
  have SU := Lib.hid qSU
  have SX := Lib.hid qSX
  clear qBE qG1 qSU qSX
  have IC := Lib.hid (IP.out du)
  have OC := Lib.hid (rc_one (p := p) hs.one)
  have SMD : Hid (∀ W, Below w.heap.size w W → Sees W du p.d → Calls Try.prog 13 #[.agg (rc p du).toArray, .agg A] W fun e w' => e = .returned (.bool true) ∧ Below W.heap.size W w') := fun W h hs => SM.out du W h hs
  have SD := Lib.hid hs
  generalize (rc p du).toArray = C at IC OC SMD ⊢
  clear hb hs SX DE IP SM
  obtain ⟨wk3, hwk3⟩ : ∃ x, x = wk2.alloc (.cells C 25) := ⟨_, rfl⟩
  have RN3 : Hid ((wk2.alloc (.cells Z 25)).setRow wk2.heap.size C = wk3) := by show _ = _; rw [hwk3]; exact alloc_setRowT wk2 Z C 25 _ rfl
  have IZ3 : Hid (Z.size = C.size) := Option.some.inj (IZ.out.symm.trans IC.out)
  have GZ3 : Hid ((wk2.alloc (.cells Z 25)).heap[wk2.heap.size]? = some (.cells Z 25 (0, 0))) := heap_alloc_new wk2 _
  have hb : Below wk2.heap.size wk2 wk3 := by rw [hwk3]; exact (Below.refl _ _).alloc (Nat.le_refl _) _
  have q0 : wk3.heap[wk2.heap.size]? = some (.cells C 25 (0, 0)) := by rw [hwk3]; exact heap_alloc_new wk2 _
  have qBE := BE.out.trans (hb.mono BE.out.size)
  have qG1 := (hb.block _ (blk_lt G1.out)).trans G1.out
  have qSU := SU.out.below hb
  have qSD := SD.out.below hb
  clear BE G1 SU SD
  have BE := Lib.hid qBE
  have G1 := Lib.hid qG1
  have SU := Lib.hid qSU
  have SD := Lib.hid qSD
  clear qBE qG1 qSU qSD
  have GC := Lib.hid q0
  clear q0 hb hwk3
  go_upto_region 6 with (refine wpList_alloc_z rfl 25 rfl (HZ.out _) ?_; refine wpList_store_row rfl 25 (.tmp 7) (.tmp 33) rfl wk2.heap.size C rfl rfl 25 Z GZ3.out IC.out IZ3.out OC.out ?_; rw [RN3.out])
  go_wp2_with (first | refine wpList_load_met rfl 25 (.tmp 7) rfl wk2.heap.size rfl 25 C (0, 0) _ GC.out Try.underlying25 ⟨_, rfl⟩ IC.out ?_ | refine wpList_load_met rfl 25 (.tmp 2) rfl w.heap.size rfl 25 A (0, 0) _ G1.out Try.underlying25 ⟨_, rfl⟩ ia.out ?_)
  refine (SMD.out wk3 BE.out SD.out).mono ?_
  rintro e wk4 ⟨rfl, hb⟩
  have qBE := BE.out.trans (hb.mono BE.out.size)
  have qG1 := (hb.block _ (blk_lt G1.out)).trans G1.out
  have qSU := SU.out.below hb
  have qSD := SD.out.below hb
  have qGC := (hb.block _ (blk_lt GC.out)).trans GC.out
  clear BE G1 SU SD GC
  have BE := Lib.hid qBE
  have G1 := Lib.hid qG1
  have SU := Lib.hid qSU
  have SD := Lib.hid qSD
  have GC := Lib.hid qGC
  clear qBE qG1 qSU qSD qGC

  clear hb
  clear SMD SD
  go_wp2_with fail
  refine (DU.out wk4 SU.out).mono ?_
  rintro e wk5 ⟨du2, rfl, hs, _, hb⟩
  have qBE := BE.out.trans (hb.mono BE.out.size)
  have qG1 := (hb.block _ (blk_lt G1.out)).trans G1.out
  have qSU := SU.out.below hb
  have qGC := (hb.block _ (blk_lt GC.out)).trans GC.out
  clear BE G1 SU GC
  have BE := Lib.hid qBE
  have G1 := Lib.hid qG1
  have SU := Lib.hid qSU
  have GC := Lib.hid qGC
  clear qBE qG1 qSU qGC
  rw [KE.out]
  have IC2 := Lib.hid (i25 (decP xs) du2)
  have OC2 := Lib.hid (rc_one (p := decP xs) hs.one)
  have hs2 := hs
  rw [KP.out] at hs2 IC2 OC2 ⊢
  have EBD := Lib.hid (fun W h => EB.out du2 W h)
  have SD2 := Lib.hid hs2
  generalize (rc (rP xs) du2).toArray = C2 at IC2 OC2 EBD ⊢
  clear hb hs hs2 DU EB KP KE
  obtain ⟨wk6, hwk6⟩ : ∃ x, x = wk5.alloc (.cells C2 25) := ⟨_, rfl⟩
  have RN6 : Hid ((wk5.alloc (.cells Z 25)).setRow wk5.heap.size C2 = wk6) := by show _ = _; rw [hwk6]; exact alloc_setRowT wk5 Z C2 25 _ rfl
  have IZ6 : Hid (Z.size = C2.size) := Option.some.inj (IZ.out.symm.trans IC2.out)
  have GZ6 : Hid ((wk5.alloc (.cells Z 25)).heap[wk5.heap.size]? = some (.cells Z 25 (0, 0))) := heap_alloc_new wk5 _
  have hb : Below wk5.heap.size wk5 wk6 := by rw [hwk6]; exact (Below.refl _ _).alloc (Nat.le_refl _) _
  have q0 : wk6.heap[wk5.heap.size]? = some (.cells C2 25 (0, 0)) := by rw [hwk6]; exact heap_alloc_new wk5 _
  have qBE := BE.out.trans (hb.mono BE.out.size)
  have qG1 := (hb.block _ (blk_lt G1.out)).trans G1.out
  have qSU := SU.out.below hb
  have qGC := (hb.block _ (blk_lt GC.out)).trans GC.out
  have qSD2 := SD2.out.below hb
  clear BE G1 SU GC SD2
  have BE := Lib.hid qBE
  have G1 := Lib.hid qG1
  have SU := Lib.hid qSU
  have GC := Lib.hid qGC
  have SD2 := Lib.hid qSD2
  clear qBE qG1 qSU qGC qSD2
  have GC2 := Lib.hid q0
  clear q0 hb hwk6
  go_upto_region 9 with (refine wpList_alloc_z rfl 25 rfl (HZ.out _) ?_; refine wpList_store_row rfl 25 (.tmp 9) (.tmp 46) rfl wk5.heap.size C2 rfl rfl 25 Z GZ6.out IC2.out IZ6.out OC2.out ?_; rw [RN6.out])
  go_wp2_with (refine wpList_load_row rfl 25 (.tmp 9) rfl wk5.heap.size rfl 25 C2 (0, 0) _ GC2.out Try.underlying25 rfl IC2.out ?_)
  refine (EBD.out wk6 SD2.out).mono ?_
  rintro e wk7 ⟨x3, c3, rfl, hs, hb⟩
  have qBE := BE.out.trans (hb.mono BE.out.size)
  have qG1 := (hb.block _ (blk_lt G1.out)).trans G1.out
  have qSU := SU.out.below hb
  have qGC := (hb.block _ (blk_lt GC.out)).trans GC.out
  have qSD2 := SD2.out.below hb
  have qGC2 := (hb.block _ (blk_lt GC2.out)).trans GC2.out
  clear BE G1 SU GC SD2 GC2
  have BE := Lib.hid qBE
  have G1 := Lib.hid qG1
  have SU := Lib.hid qSU
  have GC := Lib.hid qGC
  have SD2 := Lib.hid qSD2
  have GC2 := Lib.hid qGC2
  clear qBE qG1 qSU qGC qSD2 qGC2
  have SY := Lib.hid hs
  clear hb hs EBD SD2
  go_wp2_with fail
  refine (AL.out wk7).mono ?_
  rintro e wk8 ⟨rfl, hb⟩
  have qBE := BE.out.trans (hb.mono BE.out.size)
  have qG1 := (hb.block _ (blk_lt G1.out)).trans G1.out
  have qSU := SU.out.below hb
  have qGC := (hb.block _ (blk_lt GC.out)).trans GC.out
  have qGC2 := (hb.block _ (blk_lt GC2.out)).trans GC2.out
  have qSY := SY.out.below hb
  clear BE G1 SU GC GC2 SY
  have BE := Lib.hid qBE
  have G1 := Lib.hid qG1
  have SU := Lib.hid qSU
  have GC := Lib.hid qGC
  have GC2 := Lib.hid qGC2
  have SY := Lib.hid qSY
  clear qBE qG1 qSU qGC qGC2 qSY

  clear hb
  have cv1 := SY.out.str
  have cv2 := SU.out.str
  have AP : ((strOfNums xs).toList == (strOfNums xs).toList) = true := by simp
  generalize strOfNums xs = SX at cv1 cv2 AP
  go_wp2
  go_ret
  exact ⟨rfl, BE.out⟩

set_option maxRecDepth 100000 in
set_option maxHeartbeats 2000000 in
theorem back_tf {p : Ry} (h5 : p.d.length ≤ 5000) (dv : Value) (u : Value) (xs : List Int) (h6 : xs.length ≤ 5000) (w : World) (hd : Sees w dv p.d) (hu : Sees w u xs) (hr : mayB p = true) (hk : decB xs = false) :
    Calls Try.prog 5 #[.agg (rc p dv).toArray, u] w (AliveP w) := by
  have ia := Lib.hid (i25 p dv)
  obtain ⟨A, hA⟩ : ∃ A, A = (rc p dv).toArray := ⟨_, rfl⟩
  rw [← hA] at ia ⊢
  obtain ⟨Z, hZ⟩ : ∃ Z, Z = (rc ⟨0, 0, []⟩ (.slice none 0 0)).toArray := ⟨_, rfl⟩
  have z := z25
  rw [← hZ] at z
  have HZ := Lib.hid z
  have IZ : Hid ((Try.prog.info? 25).map (·.size) = some Z.size) := by show _ = _; rw [hZ]; exact i25 _ _
  obtain ⟨xa, ca, ea, xa63⟩ := hd.form
  obtain ⟨xu, cu, eu, xu63⟩ := hu.form
  obtain ⟨w1, hw1⟩ : ∃ w1, w1 = w.alloc (.cells A 25) := ⟨_, rfl⟩
  have b1 : Below w.heap.size w w1 := by rw [hw1]; exact (Below.refl _ _).alloc (Nat.le_refl _) _
  have g1 : w1.heap[w.heap.size]? = some (.cells A 25 (0, 0)) := by rw [hw1]; exact heap_alloc_new w _
  have ca0 : w1.cell? ⟨w.heap.size, 2, none⟩ = some (.slice xa p.d.length ca) := by rw [← ea]; rw [hA] at g1; exact (row_rc g1).2.2
  have BE := Lib.hid b1
  have G1 := Lib.hid g1
  have SU := Lib.hid (hu.below b1)
  have HW1 := Lib.hid hw1
  have EA : Hid (∀ W, Below w.heap.size w W → Calls Try.prog 8 #[.agg A] W (EncP W p)) := fun W h => by rw [hA]; exact encodeC h5 dv W (hd.below h)
  have DU : Hid (∀ W, Sees W u xs → Calls Try.prog 11 #[u] W (DecP W xs)) := fun W h => decodeC u xs (by omega) W h
  have DE : Hid (∀ v W, Sees W v (encV p) → Calls Try.prog 11 #[v] W fun e w' => ∃ du, e = .returned (.tuple #[.agg (rc p du).toArray, .int .i64 0]) ∧ Sees w' du p.d ∧ Below W.heap.size W w') := fun v W h => decode_enc h5 hr v W h
  have IP : Hid (∀ du : Value, (Try.prog.info? 25).map (·.size) = some (rc p du).toArray.size) := fun du => i25 p du
  have SM : Hid (∀ du W, Below w.heap.size w W → Sees W du p.d → Calls Try.prog 13 #[.agg (rc p du).toArray, .agg A] W fun e w' => e = .returned (.bool true) ∧ Below W.heap.size W w') := fun du W h hs => by
    rw [hA, ← sameB_refl p]
    exact sameC du dv W hs (hd.below h)
  have e0 := (encV_yes hr).2
  have kP : decP xs = ⟨0, 0, []⟩ := by unfold decP; rw [if_neg (by rw [hk]; simp)]
  have kE : decE xs = 3 := by unfold decE; rw [if_neg (by rw [hk]; simp)]
  have EB : Hid (∀ du W, Sees W du ([] : List Int) → Calls Try.prog 8 #[.agg (rc ⟨0, 0, []⟩ du).toArray] W (EncP W ⟨0, 0, []⟩)) := fun du W h => encodeC (p := ⟨0, 0, []⟩) (Nat.zero_le _) du W h
  have KP := Lib.hid kP
  have KE := Lib.hid kE
  have E0 := Lib.hid e0
  have AL : Hid (∀ W : World, Calls Try.prog 7 #[] W (AliveP W)) := alive
  have n5 : decide (5000 < p.d.length) = false := decide_eq_false (by omega)
  have n6 : decide (5000 < xs.length) = false := decide_eq_false (by omega)
  have k5 : ((p.d.length : Nat) : Int) ≤ 5000 := by omega
  have k6 : ((xs.length : Nat) : Int) ≤ 5000 := by omega
  subst eu
  clear z hZ hw1 b1 g1 hd hu hA ea h5 h6 hr hk e0 kP kE xa63 xu63
  generalize p.d.length = np at n5 k5 ca0
  go_enter Try.func5, Try.ntmps5
  go_wp2_with (first | rw [← HW1.out] | refine wpList_load_row rfl 25 (.tmp 2) rfl w.heap.size rfl 25 A (0, 0) _ G1.out Try.underlying25 rfl ia.out ?_)
  refine (EA.out w1 BE.out).mono ?_
  rintro e wk1 ⟨x1, c1, rfl, hs, hb⟩
  have qBE := BE.out.trans (hb.mono BE.out.size)
  have qG1 := (hb.block _ (blk_lt G1.out)).trans G1.out
  have qSU := SU.out.below hb
  clear BE G1 SU
  have BE := Lib.hid qBE
  have G1 := Lib.hid qG1
  have SU := Lib.hid qSU
  clear qBE qG1 qSU
  rw [E0.out]
  have SX := Lib.hid hs
  clear n5 k5 ca0
  clear hb hs
  go_wp2_with fail
  refine (DE.out _ wk1 SX.out).mono ?_
  rintro e wk2 ⟨du, rfl, hs, hb⟩
  have qBE := BE.out.trans (hb.mono BE.out.size)
  have qG1 := (hb.block _ (blk_lt G1.out)).trans G1.out
  have qSU := SU.out.below hb
  have qSX := SX.out.below hb
  clear BE G1 SU SX
  have BE := Lib.hid qBE
  have G1 := Lib.hid qG1
  have SU := Lib.hid qSU
  have SX := Lib.hid qSX
  clear qBE qG1 qSU qSX
  have IC := Lib.hid (IP.out du)
  have OC := Lib.hid (rc_one (p := p) hs.one)
  have SMD : Hid (∀ W, Below w.heap.size w W → Sees W du p.d → Calls Try.prog 13 #[.agg (rc p du).toArray, .agg A] W fun e w' => e = .returned (.bool true) ∧ Below W.heap.size W w') := fun W h hs => SM.out du W h hs
  have SD := Lib.hid hs
  generalize (rc p du).toArray = C at IC OC SMD ⊢
  clear hb hs SX DE IP SM
  obtain ⟨wk3, hwk3⟩ : ∃ x, x = wk2.alloc (.cells C 25) := ⟨_, rfl⟩
  have RN3 : Hid ((wk2.alloc (.cells Z 25)).setRow wk2.heap.size C = wk3) := by show _ = _; rw [hwk3]; exact alloc_setRowT wk2 Z C 25 _ rfl
  have IZ3 : Hid (Z.size = C.size) := Option.some.inj (IZ.out.symm.trans IC.out)
  have GZ3 : Hid ((wk2.alloc (.cells Z 25)).heap[wk2.heap.size]? = some (.cells Z 25 (0, 0))) := heap_alloc_new wk2 _
  have hb : Below wk2.heap.size wk2 wk3 := by rw [hwk3]; exact (Below.refl _ _).alloc (Nat.le_refl _) _
  have q0 : wk3.heap[wk2.heap.size]? = some (.cells C 25 (0, 0)) := by rw [hwk3]; exact heap_alloc_new wk2 _
  have qBE := BE.out.trans (hb.mono BE.out.size)
  have qG1 := (hb.block _ (blk_lt G1.out)).trans G1.out
  have qSU := SU.out.below hb
  have qSD := SD.out.below hb
  clear BE G1 SU SD
  have BE := Lib.hid qBE
  have G1 := Lib.hid qG1
  have SU := Lib.hid qSU
  have SD := Lib.hid qSD
  clear qBE qG1 qSU qSD
  have GC := Lib.hid q0
  clear q0 hb hwk3
  go_upto_region 6 with (refine wpList_alloc_z rfl 25 rfl (HZ.out _) ?_; refine wpList_store_row rfl 25 (.tmp 7) (.tmp 33) rfl wk2.heap.size C rfl rfl 25 Z GZ3.out IC.out IZ3.out OC.out ?_; rw [RN3.out])
  go_wp2_with (first | refine wpList_load_met rfl 25 (.tmp 7) rfl wk2.heap.size rfl 25 C (0, 0) _ GC.out Try.underlying25 ⟨_, rfl⟩ IC.out ?_ | refine wpList_load_met rfl 25 (.tmp 2) rfl w.heap.size rfl 25 A (0, 0) _ G1.out Try.underlying25 ⟨_, rfl⟩ ia.out ?_)
  refine (SMD.out wk3 BE.out SD.out).mono ?_
  rintro e wk4 ⟨rfl, hb⟩
  have qBE := BE.out.trans (hb.mono BE.out.size)
  have qG1 := (hb.block _ (blk_lt G1.out)).trans G1.out
  have qSU := SU.out.below hb
  have qSD := SD.out.below hb
  have qGC := (hb.block _ (blk_lt GC.out)).trans GC.out
  clear BE G1 SU SD GC
  have BE := Lib.hid qBE
  have G1 := Lib.hid qG1
  have SU := Lib.hid qSU
  have SD := Lib.hid qSD
  have GC := Lib.hid qGC
  clear qBE qG1 qSU qSD qGC

  clear hb
  clear SMD SD
  go_wp2_with fail
  refine (DU.out wk4 SU.out).mono ?_
  rintro e wk5 ⟨du2, rfl, hs, _, hb⟩
  have qBE := BE.out.trans (hb.mono BE.out.size)
  have qG1 := (hb.block _ (blk_lt G1.out)).trans G1.out
  have qSU := SU.out.below hb
  have qGC := (hb.block _ (blk_lt GC.out)).trans GC.out
  clear BE G1 SU GC
  have BE := Lib.hid qBE
  have G1 := Lib.hid qG1
  have SU := Lib.hid qSU
  have GC := Lib.hid qGC
  clear qBE qG1 qSU qGC
  rw [KE.out]
  have IC2 := Lib.hid (i25 (decP xs) du2)
  have OC2 := Lib.hid (rc_one (p := decP xs) hs.one)
  have hs2 := hs
  rw [KP.out] at hs2 IC2 OC2 ⊢
  have EBD := Lib.hid (fun W h => EB.out du2 W h)
  have SD2 := Lib.hid hs2
  generalize (rc ⟨0, 0, []⟩ du2).toArray = C2 at IC2 OC2 EBD ⊢
  clear hb hs hs2 DU EB KP KE
  obtain ⟨wk6, hwk6⟩ : ∃ x, x = wk5.alloc (.cells C2 25) := ⟨_, rfl⟩
  have RN6 : Hid ((wk5.alloc (.cells Z 25)).setRow wk5.heap.size C2 = wk6) := by show _ = _; rw [hwk6]; exact alloc_setRowT wk5 Z C2 25 _ rfl
  have IZ6 : Hid (Z.size = C2.size) := Option.some.inj (IZ.out.symm.trans IC2.out)
  have GZ6 : Hid ((wk5.alloc (.cells Z 25)).heap[wk5.heap.size]? = some (.cells Z 25 (0, 0))) := heap_alloc_new wk5 _
  have hb : Below wk5.heap.size wk5 wk6 := by rw [hwk6]; exact (Below.refl _ _).alloc (Nat.le_refl _) _
  have q0 : wk6.heap[wk5.heap.size]? = some (.cells C2 25 (0, 0)) := by rw [hwk6]; exact heap_alloc_new wk5 _
  have qBE := BE.out.trans (hb.mono BE.out.size)
  have qG1 := (hb.block _ (blk_lt G1.out)).trans G1.out
  have qSU := SU.out.below hb
  have qGC := (hb.block _ (blk_lt GC.out)).trans GC.out
  have qSD2 := SD2.out.below hb
  clear BE G1 SU GC SD2
  have BE := Lib.hid qBE
  have G1 := Lib.hid qG1
  have SU := Lib.hid qSU
  have GC := Lib.hid qGC
  have SD2 := Lib.hid qSD2
  clear qBE qG1 qSU qGC qSD2
  have GC2 := Lib.hid q0
  clear q0 hb hwk6
  go_upto_region 9 with (refine wpList_alloc_z rfl 25 rfl (HZ.out _) ?_; refine wpList_store_row rfl 25 (.tmp 9) (.tmp 46) rfl wk5.heap.size C2 rfl rfl 25 Z GZ6.out IC2.out IZ6.out OC2.out ?_; rw [RN6.out])
  go_wp2_with (refine wpList_load_row rfl 25 (.tmp 9) rfl wk5.heap.size rfl 25 C2 (0, 0) _ GC2.out Try.underlying25 rfl IC2.out ?_)
  refine (EBD.out wk6 SD2.out).mono ?_
  rintro e wk7 ⟨x3, c3, rfl, hs, hb⟩
  have qBE := BE.out.trans (hb.mono BE.out.size)
  have qG1 := (hb.block _ (blk_lt G1.out)).trans G1.out
  have qSU := SU.out.below hb
  have qGC := (hb.block _ (blk_lt GC.out)).trans GC.out
  have qSD2 := SD2.out.below hb
  have qGC2 := (hb.block _ (blk_lt GC2.out)).trans GC2.out
  clear BE G1 SU GC SD2 GC2
  have BE := Lib.hid qBE
  have G1 := Lib.hid qG1
  have SU := Lib.hid qSU
  have GC := Lib.hid qGC
  have SD2 := Lib.hid qSD2
  have GC2 := Lib.hid qGC2
  clear qBE qG1 qSU qGC qSD2 qGC2
  have SY := Lib.hid hs
  rw [show encE ⟨0, 0, []⟩ = 0 from rfl]
  clear hb hs EBD SD2
  go_wp2_with fail
  refine (AL.out wk7).mono ?_
  rintro e wk8 ⟨rfl, hb⟩
  have qBE := BE.out.trans (hb.mono BE.out.size)
  have qG1 := (hb.block _ (blk_lt G1.out)).trans G1.out
  have qSU := SU.out.below hb
  have qGC := (hb.block _ (blk_lt GC.out)).trans GC.out
  have qGC2 := (hb.block _ (blk_lt GC2.out)).trans GC2.out
  have qSY := SY.out.below hb
  clear BE G1 SU GC GC2 SY
  have BE := Lib.hid qBE
  have G1 := Lib.hid qG1
  have SU := Lib.hid qSU
  have GC := Lib.hid qGC
  have GC2 := Lib.hid qGC2
  have SY := Lib.hid qSY
  clear qBE qG1 qSU qGC qGC2 qSY

  clear hb
  go_wp2
  go_ret
  exact ⟨rfl, BE.out⟩

set_option maxRecDepth 100000 in
set_option maxHeartbeats 2000000 in
theorem back_ft {p : Ry} (h5 : p.d.length ≤ 5000) (dv : Value) (u : Value) (xs : List Int) (h6 : xs.length ≤ 5000) (w : World) (hd : Sees w dv p.d) (hu : Sees w u xs) (hr : mayB p = false) (hk : decB xs = true) :
    Calls Try.prog 5 #[.agg (rc p dv).toArray, u] w (AliveP w) := by
  have ia := Lib.hid (i25 p dv)
  obtain ⟨A, hA⟩ : ∃ A, A = (rc p dv).toArray := ⟨_, rfl⟩
  rw [← hA] at ia ⊢
  obtain ⟨Z, hZ⟩ : ∃ Z, Z = (rc ⟨0, 0, []⟩ (.slice none 0 0)).toArray := ⟨_, rfl⟩
  have z := z25
  rw [← hZ] at z
  have HZ := Lib.hid z
  have IZ : Hid ((Try.prog.info? 25).map (·.size) = some Z.size) := by show _ = _; rw [hZ]; exact i25 _ _
  obtain ⟨xa, ca, ea, xa63⟩ := hd.form
  obtain ⟨xu, cu, eu, xu63⟩ := hu.form
  obtain ⟨w1, hw1⟩ : ∃ w1, w1 = w.alloc (.cells A 25) := ⟨_, rfl⟩
  have b1 : Below w.heap.size w w1 := by rw [hw1]; exact (Below.refl _ _).alloc (Nat.le_refl _) _
  have g1 : w1.heap[w.heap.size]? = some (.cells A 25 (0, 0)) := by rw [hw1]; exact heap_alloc_new w _
  have ca0 : w1.cell? ⟨w.heap.size, 2, none⟩ = some (.slice xa p.d.length ca) := by rw [← ea]; rw [hA] at g1; exact (row_rc g1).2.2
  have BE := Lib.hid b1
  have G1 := Lib.hid g1
  have SU := Lib.hid (hu.below b1)
  have HW1 := Lib.hid hw1
  have EA : Hid (∀ W, Below w.heap.size w W → Calls Try.prog 8 #[.agg A] W (EncP W p)) := fun W h => by rw [hA]; exact encodeC h5 dv W (hd.below h)
  have DU : Hid (∀ W, Sees W u xs → Calls Try.prog 11 #[u] W (DecP W xs)) := fun W h => decodeC u xs (by omega) W h
  have e0 := encE_no hr
  obtain ⟨kx, kr⟩ := enc_dec hu.1 hk
  have kl : (rP xs).d.length ≤ 5000 := by
    show (rD xs).length ≤ 5000
    rw [(rd_long (dec_six hk)).2.2.1, List.length_drop]; omega
  have kP : decP xs = rP xs := by unfold decP; rw [if_pos hk]
  have kE : decE xs = 0 := by unfold decE; rw [if_pos hk]
  have EB : Hid (∀ du W, Sees W du (rP xs).d → Calls Try.prog 8 #[.agg (rc (rP xs) du).toArray] W fun e w' => ∃ x cap, e = .returned (.tuple #[.slice x xs.length cap, .int .i64 0]) ∧ Sees w' (.slice x xs.length cap) xs ∧ Below W.heap.size W w') := fun du W h => by
    refine (encodeC kl du W h).mono fun e w' hh => ?_
    obtain ⟨x, cap, h1, h2, h3⟩ := hh
    rw [(encV_yes kr).1, (encV_yes kr).2, kx] at h1
    rw [(encV_yes kr).1, kx] at h2
    exact ⟨x, cap, h1, h2, h3⟩
  have KP := Lib.hid kP
  have KE := Lib.hid kE
  have E0 := Lib.hid e0
  have AL : Hid (∀ W : World, Calls Try.prog 7 #[] W (AliveP W)) := alive
  have n5 : decide (5000 < p.d.length) = false := decide_eq_false (by omega)
  have n6 : decide (5000 < xs.length) = false := decide_eq_false (by omega)
  have k5 : ((p.d.length : Nat) : Int) ≤ 5000 := by omega
  have k6 : ((xs.length : Nat) : Int) ≤ 5000 := by omega
  subst eu
  clear z hZ hw1 b1 g1 hd hu hA ea h5 h6 hr hk e0 kP kE xa63 xu63 kx kl kr
  generalize p.d.length = np at n5 k5 ca0
  go_enter Try.func5, Try.ntmps5
  go_wp2_with (first | rw [← HW1.out] | refine wpList_load_row rfl 25 (.tmp 2) rfl w.heap.size rfl 25 A (0, 0) _ G1.out Try.underlying25 rfl ia.out ?_)
  refine (EA.out w1 BE.out).mono ?_
  rintro e wk1 ⟨x1, c1, rfl, hs, hb⟩
  have qBE := BE.out.trans (hb.mono BE.out.size)
  have qG1 := (hb.block _ (blk_lt G1.out)).trans G1.out
  have qSU := SU.out.below hb
  clear BE G1 SU
  have BE := Lib.hid qBE
  have G1 := Lib.hid qG1
  have SU := Lib.hid qSU
  clear qBE qG1 qSU
  rw [E0.out]
  have SX := Lib.hid hs
  clear n5 k5 ca0
  clear hb hs
  clear SX
  go_wp2_with fail
  refine (DU.out wk1 SU.out).mono ?_
  rintro e wk2 ⟨du2, rfl, hs, _, hb⟩
  have qBE := BE.out.trans (hb.mono BE.out.size)
  have qG1 := (hb.block _ (blk_lt G1.out)).trans G1.out
  have qSU := SU.out.below hb
  clear BE G1 SU
  have BE := Lib.hid qBE
  have G1 := Lib.hid qG1
  have SU := Lib.hid qSU
  clear qBE qG1 qSU
  rw [KE.out]
  have IC2 := Lib.hid (i25 (decP xs) du2)
  have OC2 := Lib.hid (rc_one (p := decP xs) hs.one)
  have hs2 := hs
  rw [KP.out] at hs2 IC2 OC2 ⊢
  have EBD := Lib.hid (fun W h => EB.out du2 W h)
  have SD2 := Lib.hid hs2
  generalize (rc (rP xs) du2).toArray = C2 at IC2 OC2 EBD ⊢
  clear hb hs hs2 DU EB KP KE
  obtain ⟨wk3, hwk3⟩ : ∃ x, x = wk2.alloc (.cells C2 25) := ⟨_, rfl⟩
  have RN3 : Hid ((wk2.alloc (.cells Z 25)).setRow wk2.heap.size C2 = wk3) := by show _ = _; rw [hwk3]; exact alloc_setRowT wk2 Z C2 25 _ rfl
  have IZ3 : Hid (Z.size = C2.size) := Option.some.inj (IZ.out.symm.trans IC2.out)
  have GZ3 : Hid ((wk2.alloc (.cells Z 25)).heap[wk2.heap.size]? = some (.cells Z 25 (0, 0))) := heap_alloc_new wk2 _
  have hb : Below wk2.heap.size wk2 wk3 := by rw [hwk3]; exact (Below.refl _ _).alloc (Nat.le_refl _) _
  have q0 : wk3.heap[wk2.heap.size]? = some (.cells C2 25 (0, 0)) := by rw [hwk3]; exact heap_alloc_new wk2 _
  have qBE := BE.out.trans (hb.mono BE.out.size)
  have qG1 := (hb.block _ (blk_lt G1.out)).trans G1.out
  have qSU := SU.out.below hb
  have qSD2 := SD2.out.below hb
  clear BE G1 SU SD2
  have BE := Lib.hid qBE
  have G1 := Lib.hid qG1
  have SU := Lib.hid qSU
  have SD2 := Lib.hid qSD2
  clear qBE qG1 qSU qSD2
  have GC2 := Lib.hid q0
  clear q0 hb hwk3
  go_upto_region 9 with (refine wpList_alloc_z rfl 25 rfl (HZ.out _) ?_; refine wpList_store_row rfl 25 (.tmp 9) (.tmp 46) rfl wk2.heap.size C2 rfl rfl 25 Z GZ3.out IC2.out IZ3.out OC2.out ?_; rw [RN3.out])
  go_wp2_with (refine wpList_load_row rfl 25 (.tmp 9) rfl wk2.heap.size rfl 25 C2 (0, 0) _ GC2.out Try.underlying25 rfl IC2.out ?_)
  refine (EBD.out wk3 SD2.out).mono ?_
  rintro e wk4 ⟨x3, c3, rfl, hs, hb⟩
  have qBE := BE.out.trans (hb.mono BE.out.size)
  have qG1 := (hb.block _ (blk_lt G1.out)).trans G1.out
  have qSU := SU.out.below hb
  have qSD2 := SD2.out.below hb
  have qGC2 := (hb.block _ (blk_lt GC2.out)).trans GC2.out
  clear BE G1 SU SD2 GC2
  have BE := Lib.hid qBE
  have G1 := Lib.hid qG1
  have SU := Lib.hid qSU
  have SD2 := Lib.hid qSD2
  have GC2 := Lib.hid qGC2
  clear qBE qG1 qSU qSD2 qGC2
  have SY := Lib.hid hs
  clear hb hs EBD SD2
  go_wp2_with fail
  refine (AL.out wk4).mono ?_
  rintro e wk5 ⟨rfl, hb⟩
  have qBE := BE.out.trans (hb.mono BE.out.size)
  have qG1 := (hb.block _ (blk_lt G1.out)).trans G1.out
  have qSU := SU.out.below hb
  have qGC2 := (hb.block _ (blk_lt GC2.out)).trans GC2.out
  have qSY := SY.out.below hb
  clear BE G1 SU GC2 SY
  have BE := Lib.hid qBE
  have G1 := Lib.hid qG1
  have SU := Lib.hid qSU
  have GC2 := Lib.hid qGC2
  have SY := Lib.hid qSY
  clear qBE qG1 qSU qGC2 qSY

  clear hb
  have cv1 := SY.out.str
  have cv2 := SU.out.str
  have AP : ((strOfNums xs).toList == (strOfNums xs).toList) = true := by simp
  generalize strOfNums xs = SX at cv1 cv2 AP
  go_wp2
  go_ret
  exact ⟨rfl, BE.out⟩

set_option maxRecDepth 100000 in
set_option maxHeartbeats 2000000 in
theorem back_ff {p : Ry} (h5 : p.d.length ≤ 5000) (dv : Value) (u : Value) (xs : List Int) (h6 : xs.length ≤ 5000) (w : World) (hd : Sees w dv p.d) (hu : Sees w u xs) (hr : mayB p = false) (hk : decB xs = false) :
    Calls Try.prog 5 #[.agg (rc p dv).toArray, u] w (AliveP w) := by
  have ia := Lib.hid (i25 p dv)
  obtain ⟨A, hA⟩ : ∃ A, A = (rc p dv).toArray := ⟨_, rfl⟩
  rw [← hA] at ia ⊢
  obtain ⟨Z, hZ⟩ : ∃ Z, Z = (rc ⟨0, 0, []⟩ (.slice none 0 0)).toArray := ⟨_, rfl⟩
  have z := z25
  rw [← hZ] at z
  have HZ := Lib.hid z
  have IZ : Hid ((Try.prog.info? 25).map (·.size) = some Z.size) := by show _ = _; rw [hZ]; exact i25 _ _
  obtain ⟨xa, ca, ea, xa63⟩ := hd.form
  obtain ⟨xu, cu, eu, xu63⟩ := hu.form
  obtain ⟨w1, hw1⟩ : ∃ w1, w1 = w.alloc (.cells A 25) := ⟨_, rfl⟩
  have b1 : Below w.heap.size w w1 := by rw [hw1]; exact (Below.refl _ _).alloc (Nat.le_refl _) _
  have g1 : w1.heap[w.heap.size]? = some (.cells A 25 (0, 0)) := by rw [hw1]; exact heap_alloc_new w _
  have ca0 : w1.cell? ⟨w.heap.size, 2, none⟩ = some (.slice xa p.d.length ca) := by rw [← ea]; rw [hA] at g1; exact (row_rc g1).2.2
  have BE := Lib.hid b1
  have G1 := Lib.hid g1
  have SU := Lib.hid (hu.below b1)
  have HW1 := Lib.hid hw1
  have EA : Hid (∀ W, Below w.heap.size w W → Calls Try.prog 8 #[.agg A] W (EncP W p)) := fun W h => by rw [hA]; exact encodeC h5 dv W (hd.below h)
  have DU : Hid (∀ W, Sees W u xs → Calls Try.prog 11 #[u] W (DecP W xs)) := fun W h => decodeC u xs (by omega) W h
  have e0 := encE_no hr
  have kP : decP xs = ⟨0, 0, []⟩ := by unfold decP; rw [if_neg (by rw [hk]; simp)]
  have kE : decE xs = 3 := by unfold decE; rw [if_neg (by rw [hk]; simp)]
  have EB : Hid (∀ du W, Sees W du ([] : List Int) → Calls Try.prog 8 #[.agg (rc ⟨0, 0, []⟩ du).toArray] W (EncP W ⟨0, 0, []⟩)) := fun du W h => encodeC (p := ⟨0, 0, []⟩) (Nat.zero_le _) du W h
  have KP := Lib.hid kP
  have KE := Lib.hid kE
  have E0 := Lib.hid e0
  have AL : Hid (∀ W : World, Calls Try.prog 7 #[] W (AliveP W)) := alive
  have n5 : decide (5000 < p.d.length) = false := decide_eq_false (by omega)
  have n6 : decide (5000 < xs.length) = false := decide_eq_false (by omega)
  have k5 : ((p.d.length : Nat) : Int) ≤ 5000 := by omega
  have k6 : ((xs.length : Nat) : Int) ≤ 5000 := by omega
  subst eu
  clear z hZ hw1 b1 g1 hd hu hA ea h5 h6 hr hk e0 kP kE xa63 xu63
  generalize p.d.length = np at n5 k5 ca0
  go_enter Try.func5, Try.ntmps5
  go_wp2_with (first | rw [← HW1.out] | refine wpList_load_row rfl 25 (.tmp 2) rfl w.heap.size rfl 25 A (0, 0) _ G1.out Try.underlying25 rfl ia.out ?_)
  refine (EA.out w1 BE.out).mono ?_
  rintro e wk1 ⟨x1, c1, rfl, hs, hb⟩
  have qBE := BE.out.trans (hb.mono BE.out.size)
  have qG1 := (hb.block _ (blk_lt G1.out)).trans G1.out
  have qSU := SU.out.below hb
  clear BE G1 SU
  have BE := Lib.hid qBE
  have G1 := Lib.hid qG1
  have SU := Lib.hid qSU
  clear qBE qG1 qSU
  rw [E0.out]
  have SX := Lib.hid hs
  clear n5 k5 ca0
  clear hb hs
  clear SX
  go_wp2_with fail
  refine (DU.out wk1 SU.out).mono ?_
  rintro e wk2 ⟨du2, rfl, hs, _, hb⟩
  have qBE := BE.out.trans (hb.mono BE.out.size)
  have qG1 := (hb.block _ (blk_lt G1.out)).trans G1.out
  have qSU := SU.out.below hb
  clear BE G1 SU
  have BE := Lib.hid qBE
  have G1 := Lib.hid qG1
  have SU := Lib.hid qSU
  clear qBE qG1 qSU
  rw [KE.out]
  have IC2 := Lib.hid (i25 (decP xs) du2)
  have OC2 := Lib.hid (rc_one (p := decP xs) hs.one)
  have hs2 := hs
  rw [KP.out] at hs2 IC2 OC2 ⊢
  have EBD := Lib.hid (fun W h => EB.out du2 W h)
  have SD2 := Lib.hid hs2
  generalize (rc ⟨0, 0, []⟩ du2).toArray = C2 at IC2 OC2 EBD ⊢
  clear hb hs hs2 DU EB KP KE
  obtain ⟨wk3, hwk3⟩ : ∃ x, x = wk2.alloc (.cells C2 25) := ⟨_, rfl⟩
  have RN3 : Hid ((wk2.alloc (.cells Z 25)).setRow wk2.heap.size C2 = wk3) := by show _ = _; rw [hwk3]; exact alloc_setRowT wk2 Z C2 25 _ rfl
  have IZ3 : Hid (Z.size = C2.size) := Option.some.inj (IZ.out.symm.trans IC2.out)
  have GZ3 : Hid ((wk2.alloc (.cells Z 25)).heap[wk2.heap.size]? = some (.cells Z 25 (0, 0))) := heap_alloc_new wk2 _
  have hb : Below wk2.heap.size wk2 wk3 := by rw [hwk3]; exact (Below.refl _ _).alloc (Nat.le_refl _) _
  have q0 : wk3.heap[wk2.heap.size]? = some (.cells C2 25 (0, 0)) := by rw [hwk3]; exact heap_alloc_new wk2 _
  have qBE := BE.out.trans (hb.mono BE.out.size)
  have qG1 := (hb.block _ (blk_lt G1.out)).trans G1.out
  have qSU := SU.out.below hb
  have qSD2 := SD2.out.below hb
  clear BE G1 SU SD2
  have BE := Lib.hid qBE
  have G1 := Lib.hid qG1
  have SU := Lib.hid qSU
  have SD2 := Lib.hid qSD2
  clear qBE qG1 qSU qSD2
  have GC2 := Lib.hid q0
  clear q0 hb hwk3
  go_upto_region 9 with (refine wpList_alloc_z rfl 25 rfl (HZ.out _) ?_; refine wpList_store_row rfl 25 (.tmp 9) (.tmp 46) rfl wk2.heap.size C2 rfl rfl 25 Z GZ3.out IC2.out IZ3.out OC2.out ?_; rw [RN3.out])
  go_wp2_with (refine wpList_load_row rfl 25 (.tmp 9) rfl wk2.heap.size rfl 25 C2 (0, 0) _ GC2.out Try.underlying25 rfl IC2.out ?_)
  refine (EBD.out wk3 SD2.out).mono ?_
  rintro e wk4 ⟨x3, c3, rfl, hs, hb⟩
  have qBE := BE.out.trans (hb.mono BE.out.size)
  have qG1 := (hb.block _ (blk_lt G1.out)).trans G1.out
  have qSU := SU.out.below hb
  have qSD2 := SD2.out.below hb
  have qGC2 := (hb.block _ (blk_lt GC2.out)).trans GC2.out
  clear BE G1 SU SD2 GC2
  have BE := Lib.hid qBE
  have G1 := Lib.hid qG1
  have SU := Lib.hid qSU
  have SD2 := Lib.hid qSD2
  have GC2 := Lib.hid qGC2
  clear qBE qG1 qSU qSD2 qGC2
  have SY := Lib.hid hs
  rw [show encE ⟨0, 0, []⟩ = 0 from rfl]
  clear hb hs EBD SD2
  go_wp2_with fail
  refine (AL.out wk4).mono ?_
  rintro e wk5 ⟨rfl, hb⟩
  have qBE := BE.out.trans (hb.mono BE.out.size)
  have qG1 := (hb.block _ (blk_lt G1.out)).trans G1.out
  have qSU := SU.out.below hb
  have qGC2 := (hb.block _ (blk_lt GC2.out)).trans GC2.out
  have qSY := SY.out.below hb
  clear BE G1 SU GC2 SY
  have BE := Lib.hid qBE
  have G1 := Lib.hid qG1
  have SU := Lib.hid qSU
  have GC2 := Lib.hid qGC2
  have SY := Lib.hid qSY
  clear qBE qG1 qSU qGC2 qSY

  clear hb
  go_wp2
  go_ret
  exact ⟨rfl, BE.out⟩

set_option maxRecDepth 100000 in
set_option maxHeartbeats 1000000 in
theorem back_great {p : Ry} (dv u : Value) (xs : List Int) (w : World) (hd : Sees w dv p.d) (hu : Sees w u xs) (hg : 5000 < p.d.length ∨ 5000 < xs.length) :
    Calls Try.prog 5 #[.agg (rc p dv).toArray, u] w (AliveP w) := by
  obtain ⟨xa, ca, ea, _⟩ := hd.form
  obtain ⟨xu, cu, rfl, xu63⟩ := hu.form
  obtain ⟨A, hA⟩ : ∃ A, A = (rc p dv).toArray := ⟨_, rfl⟩
  rw [← hA]
  obtain ⟨w1, hw1⟩ : ∃ w1, w1 = w.alloc (.cells A 25) := ⟨_, rfl⟩
  have b1 : Below w.heap.size w w1 := by rw [hw1]; exact (Below.refl _ _).alloc (Nat.le_refl _) _
  have g1 : w1.heap[w.heap.size]? = some (.cells A 25 (0, 0)) := by rw [hw1]; exact heap_alloc_new w _
  have ca0 : w1.cell? ⟨w.heap.size, 2, none⟩ = some (.slice xa p.d.length ca) := by rw [← ea]; rw [hA] at g1; exact (row_rc g1).2.2
  have BE := Lib.hid b1
  have HW1 := Lib.hid hw1
  clear hw1 b1 g1 hd ea hA hu
  generalize p.d.length = np at *
  generalize xs.length = nq at *
  by_cases hp5 : 5000 < np
  · have n5 : decide (5000 < np) = true := decide_eq_true hp5
    have k5 : (5000 : Int) < (np : Int) := by omega
    clear hg
    go_enter Try.func5, Try.ntmps5
    go_wp2_with (rw [← HW1.out])
    refine (alive _).mono ?_
    rintro e w3 ⟨rfl, hb⟩
    have B3 := Lib.hid (BE.out.trans (hb.mono BE.out.size))
    clear hb
    go_wp2_with fail
    go_ret
    exact ⟨rfl, B3.out⟩
  · have hq5 : 5000 < nq := by omega
    have n5 : decide (5000 < np) = false := decide_eq_false hp5
    have n6 : decide (5000 < nq) = true := decide_eq_true hq5
    have k5 : ((np : Nat) : Int) ≤ 5000 := by omega
    have k6 : (5000 : Int) < (nq : Int) := by omega
    clear hg
    go_enter Try.func5, Try.ntmps5
    go_wp2_with (rw [← HW1.out])
    refine (alive _).mono ?_
    rintro e w3 ⟨rfl, hb⟩
    have B3 := Lib.hid (BE.out.trans (hb.mono BE.out.size))
    clear hb
    go_wp2_with fail
    go_ret
    exact ⟨rfl, B3.out⟩
end Go.Proofs.Ytabopcfhonkecaa
