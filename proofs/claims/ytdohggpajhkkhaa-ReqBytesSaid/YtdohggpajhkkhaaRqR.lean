/-
  The walk of ReqBack. Condition: the arguments read as a request and as bytes.
-/
import Derived.Test.YtdohggpajhkkhaaRqQ
namespace Go.Proofs.Ytdohggpajhkkhaa
open Go.RowKit
theorem bytR_byt {p : Rq} (hp : RQ p) (hd : Byt p.d) (h : rightQ p = true) : Byt (bytR p) := fun x hx => by
  have kp := kind_bd (right_kind h)
  simp only [bytR, List.mem_cons] at hx
  rcases hx with rfl | rfl | hx
  · omega
  · omega
  · exact wrL_byt hp hd x hx
theorem encV_yes {p : Rq} (h : rightQ p = true) : encV p = bytR p ∧ encE p = 0 := by unfold encV encE; rw [if_pos h, if_pos h]; exact ⟨rfl, rfl⟩
theorem encE_no {p : Rq} (h : rightQ p = false) : encE p = 3 := by unfold encE; rw [h]; rfl
theorem encE_eq (p : Rq) : (encE p == 0) = rightQ p := by
  unfold encE
  cases rightQ p <;> rfl
theorem bytR_len {p : Rq} (hp : RQ p) (h5 : p.d.length ≤ 5000) (h : rightQ p = true) : (bytR p).length ≤ 10000 := by
  have := wrL_len hp (right_kind h)
  simp only [bytR, List.length_cons]
  omega
theorem pz0_no : rightQ (pz 0) = false := by
  unfold rightQ
  rfl
theorem pz0_ok : RQ (pz 0) := pz_ok (by unfold i64; omega)
/-- Decode of what Encode told. -/
theorem decode_enc {p : Rq} (hp : RQ p) (h5 : p.d.length ≤ 5000) (h : rightQ p = true) (v : Value) (w : World) (hb : Byt p.d) (hs : Sees w v (encV p)) :
    Calls Try.prog 12 #[v] w fun e w' => ∃ dv, e = .returned (.tuple #[.agg (rc p dv).toArray, .int .i64 0]) ∧ Sees w' dv p.d ∧ Below w.heap.size w w' := by
  rw [(encV_yes h).1] at hs
  refine (decodeC v _ (bytR_len hp h5 h) w hs).mono fun e w' hh => ?_
  obtain ⟨dv, he, _, h2, _, h4⟩ := hh
  obtain ⟨h1, h3⟩ := right_dec hp hb h5 h
  rw [h3] at he h2
  have e0 : decE (bytR p) = 0 := by unfold decE; rw [if_pos h1]
  rw [e0] at he
  exact ⟨dv, he, h2, h4⟩

set_option maxRecDepth 100000 in
set_option maxHeartbeats 2000000 in
theorem back_tt {p : Rq} (hp : RQ p) (h5 : p.d.length ≤ 5000) (dv : Value) (u : Value) (xs : List Int) (h6 : xs.length ≤ 5000) (w : World) (hd : Sees w dv p.d) (hu : Sees w u xs) (hr : rightQ p = true) (hk : dOk xs = true) :
    Calls Try.prog 4 #[.agg (rc p dv).toArray, u] w (AliveP w) := by
  have ia := Lib.hid (i26 hp dv)
  obtain ⟨A, hA⟩ : ∃ A, A = (rc p dv).toArray := ⟨_, rfl⟩
  rw [← hA] at ia ⊢
  obtain ⟨Z, hZ⟩ : ∃ Z, Z = (rc (pz 0) (.slice none 0 0)).toArray := ⟨_, rfl⟩
  have z := z26
  rw [← hZ] at z
  have HZ := Lib.hid z
  have IZ : Hid ((Try.prog.info? 26).map (·.size) = some Z.size) := by show _ = _; rw [hZ]; exact i26 pz0_ok _
  obtain ⟨xa, ca, ea, xa63⟩ := hd.form
  obtain ⟨xu, cu, eu, xu63⟩ := hu.form
  obtain ⟨w1, hw1⟩ : ∃ w1, w1 = w.alloc (.cells A 26) := ⟨_, rfl⟩
  have b1 : Below w.heap.size w w1 := by rw [hw1]; exact (Below.refl _ _).alloc (Nat.le_refl _) _
  have g1 : w1.heap[w.heap.size]? = some (.cells A 26 (0, 0)) := by rw [hw1]; exact heap_alloc_new w _
  have ca0 : w1.cell? ⟨w.heap.size, 137, none⟩ = some (.slice xa p.d.length ca) := by rw [← ea]; rw [hA] at g1; exact row_dat hp g1
  have BE := Lib.hid b1
  have G1 := Lib.hid g1
  have SU := Lib.hid (hu.below b1)
  have HW1 := Lib.hid hw1
  have hbd := hd.1
  have EA : Hid (∀ W, Below w.heap.size w W → Calls Try.prog 8 #[.agg A] W (EncP W p)) := fun W h => by rw [hA]; exact encodeC hp h5 dv W (hd.below h)
  have RI : Hid (∀ W, Below w.heap.size w W → Calls Try.prog 15 #[.agg A] W fun e w' => e = .returned (.bool (rightQ p)) ∧ Below W.heap.size W w') := fun W h => by rw [hA]; exact rightC hp h5 dv W (hd.below h)
  have DU : Hid (∀ W, Sees W u xs → Calls Try.prog 12 #[u] W (DecP W xs)) := fun W h => decodeC u xs (by omega) W h
  have DE : Hid (∀ v W, Sees W v (encV p) → Calls Try.prog 12 #[v] W fun e w' => ∃ du, e = .returned (.tuple #[.agg (rc p du).toArray, .int .i64 0]) ∧ Sees w' du p.d ∧ Below W.heap.size W w') := fun v W h => decode_enc hp h5 hr v W hbd h
  have IP : Hid (∀ du : Value, (Try.prog.info? 26).map (·.size) = some (rc p du).toArray.size) := fun du => i26 hp du
  have SM : Hid (∀ du W, Below w.heap.size w W → Sees W du p.d → Calls Try.prog 17 #[.agg (rc p du).toArray, .agg A] W fun e w' => e = .returned (.bool true) ∧ Below W.heap.size W w') := fun du W h hs => by
    rw [hA, ← sameB_refl p]
    exact sameC hp hp du dv W hs (hd.below h)
  have e0 := (encV_yes hr).2
  have bk := dec_back hu.1 (by omega : xs.length ≤ 10000) hk
  obtain ⟨kq, kx, kl, kr⟩ := bk
  have kP : decP xs = (dA xs).1 := by unfold decP; rw [if_pos hk]
  have kE : decE xs = 0 := by unfold decE; rw [if_pos hk]
  have EB : Hid (∀ du W, Sees W du (dA xs).1.d → Calls Try.prog 8 #[.agg (rc (dA xs).1 du).toArray] W fun e w' => ∃ x cap, e = .returned (.tuple #[.slice x xs.length cap, .int .i64 0]) ∧ Sees w' (.slice x xs.length cap) xs ∧ Below W.heap.size W w') := fun du W h => by
    refine (encodeC kq (by omega) du W h).mono fun e w' hh => ?_
    obtain ⟨x, cap, h1, h2, h3⟩ := hh
    rw [(encV_yes kr).1, (encV_yes kr).2, ← kx] at h1
    rw [(encV_yes kr).1, ← kx] at h2
    exact ⟨x, cap, h1, h2, h3⟩
  have AP : ((strOfNums xs).toList == (strOfNums xs).toList) = true := by simp
  have KP := Lib.hid kP
  have KE := Lib.hid kE
  have E0 := Lib.hid e0
  have RR := Lib.hid hr
  have AL : Hid (∀ W : World, Calls Try.prog 7 #[] W (AliveP W)) := alive
  have n5 : decide (5000 < p.d.length) = false := decide_eq_false (by omega)
  have n6 : decide (5000 < xs.length) = false := decide_eq_false (by omega)
  have k5 : ((p.d.length : Nat) : Int) ≤ 5000 := by omega
  have k6 : ((xs.length : Nat) : Int) ≤ 5000 := by omega
  subst eu
  clear z hZ hw1 b1 g1 hd hu hA ea h5 h6 hr hk e0 kP kE hp xa63 xu63 hbd kq kx kl kr AP
  generalize p.d.length = np at n5 k5 ca0
  go_enter Try.func4, Try.ntmps4
  go_wp2_with (first | rw [← HW1.out] | refine wpList_load_row rfl 26 (.tmp 2) rfl w.heap.size rfl 26 A (0, 0) _ G1.out Try.underlying26 rfl ia.out ?_)
  refine (EA.out w1 BE.out).mono ?_
  rintro e wk1 ⟨x1, c1, rfl, hs, hb⟩
  have qBE := BE.out.trans (hb.mono BE.out.size)
  have qG1 := (hb.block _ (blk_lt G1.out)).trans G1.out
  have qSU := SU.out.below hb
  clear BE G1 SU
  have BE := Lib.hid qBE
  have G1 := Lib.hid qG1
  have SU := Lib.hid qSU
  clear qBE qG1 qSU
  rw [E0.out]
  have SX := Lib.hid hs
  clear n5 k5 ca0
  clear hb hs
  go_wp2_with fail
  refine (DE.out _ wk1 SX.out).mono ?_
  rintro e wk2 ⟨du, rfl, hs, hb⟩
  have qBE := BE.out.trans (hb.mono BE.out.size)
  have qG1 := (hb.block _ (blk_lt G1.out)).trans G1.out
  have qSU := SU.out.below hb
  have qSX := SX.out.below hb
  clear BE G1 SU SX
  have BE := Lib.hid qBE
  have G1 := Lib.hid qG1
  have SU := Lib.hid qSU
  have SX := Lib.hid qSX
  clear qBE qG1 qSU qSX
  have IC := Lib.hid (IP.out du)
  have OC := Lib.hid (rc_one (p := p) hs.one)
  have SMD : Hid (∀ W, Below w.heap.size w W → Sees W du p.d → Calls Try.prog 17 #[.agg (rc p du).toArray, .agg A] W fun e w' => e = .returned (.bool true) ∧ Below W.heap.size W w') := fun W h hs => SM.out du W h hs
  have SD := Lib.hid hs
  generalize (rc p du).toArray = C at IC OC SMD ⊢
  clear hb hs SX DE IP SM
  obtain ⟨wk3, hwk3⟩ : ∃ x, x = wk2.alloc (.cells C 26) := ⟨_, rfl⟩
  have RN3 : Hid ((wk2.alloc (.cells Z 26)).setRow wk2.heap.size C = wk3) := by show _ = _; rw [hwk3]; exact alloc_setRowT wk2 Z C 26 _ rfl
  have IZ3 : Hid (Z.size = C.size) := Option.some.inj (IZ.out.symm.trans IC.out)
  have GZ3 : Hid ((wk2.alloc (.cells Z 26)).heap[wk2.heap.size]? = some (.cells Z 26 (0, 0))) := heap_alloc_new wk2 _
  have hb : Below wk2.heap.size wk2 wk3 := by rw [hwk3]; exact (Below.refl _ _).alloc (Nat.le_refl _) _
  have q0 : wk3.heap[wk2.heap.size]? = some (.cells C 26 (0, 0)) := by rw [hwk3]; exact heap_alloc_new wk2 _
  have qBE := BE.out.trans (hb.mono BE.out.size)
  have qG1 := (hb.block _ (blk_lt G1.out)).trans G1.out
  have qSU := SU.out.below hb
  have qSD := SD.out.below hb
  clear BE G1 SU SD
  have BE := Lib.hid qBE
  have G1 := Lib.hid qG1
  have SU := Lib.hid qSU
  have SD := Lib.hid qSD
  clear qBE qG1 qSU qSD
  have GC := Lib.hid q0
  clear q0 hb hwk3
  go_upto_region 6 with (refine wpList_alloc_z rfl 26 rfl (HZ.out _) ?_; refine wpList_store_row rfl 26 (.tmp 7) (.tmp 33) rfl wk2.heap.size C rfl rfl 26 Z GZ3.out IC.out IZ3.out OC.out ?_; rw [RN3.out])
  go_wp2_with (first | refine wpList_load_met rfl 26 (.tmp 7) rfl wk2.heap.size rfl 26 C (0, 0) _ GC.out Try.underlying26 ⟨_, rfl⟩ IC.out ?_ | refine wpList_load_met rfl 26 (.tmp 2) rfl w.heap.size rfl 26 A (0, 0) _ G1.out Try.underlying26 ⟨_, rfl⟩ ia.out ?_)
  refine (SMD.out wk3 BE.out SD.out).mono ?_
  rintro e wk4 ⟨rfl, hb⟩
  have qBE := BE.out.trans (hb.mono BE.out.size)
  have qG1 := (hb.block _ (blk_lt G1.out)).trans G1.out
  have qSU := SU.out.below hb
  have qSD := SD.out.below hb
  have qGC := (hb.block _ (blk_lt GC.out)).trans GC.out
  clear BE G1 SU SD GC
  have BE := Lib.hid qBE
  have G1 := Lib.hid qG1
  have SU := Lib.hid qSU
  have SD := Lib.hid qSD
  have GC := Lib.hid qGC
  clear qBE qG1 qSU qSD qGC

  clear hb
  clear SMD SD
  go_wp2_with fail
  refine (DU.out wk4 SU.out).mono ?_
  rintro e wk5 ⟨du2, rfl, hq, hs, _, hb⟩
  have qBE := BE.out.trans (hb.mono BE.out.size)
  have qG1 := (hb.block _ (blk_lt G1.out)).trans G1.out
  have qSU := SU.out.below hb
  have qGC := (hb.block _ (blk_lt GC.out)).trans GC.out
  clear BE G1 SU GC
  have BE := Lib.hid qBE
  have G1 := Lib.hid qG1
  have SU := Lib.hid qSU
  have GC := Lib.hid qGC
  clear qBE qG1 qSU qGC
  rw [KE.out]
  have IC2 := Lib.hid (i26 hq du2)
  have OC2 := Lib.hid (rc_one (p := decP xs) hs.one)
  have hs2 := hs
  rw [KP.out] at hs2 IC2 OC2 ⊢
  have EBD := Lib.hid (fun W h => EB.out du2 W h)
  have SD2 := Lib.hid hs2
  generalize (rc (dA xs).1 du2).toArray = C2 at IC2 OC2 EBD ⊢
  clear hb hs hs2 hq DU EB KP KE
  obtain ⟨wk6, hwk6⟩ : ∃ x, x = wk5.alloc (.cells C2 26) := ⟨_, rfl⟩
  have RN6 : Hid ((wk5.alloc (.cells Z 26)).setRow wk5.heap.size C2 = wk6) := by show _ = _; rw [hwk6]; exact alloc_setRowT wk5 Z C2 26 _ rfl
  have IZ6 : Hid (Z.size = C2.size) := Option.some.inj (IZ.out.symm.trans IC2.out)
  have GZ6 : Hid ((wk5.alloc (.cells Z 26)).heap[wk5.heap.size]? = some (.cells Z 26 (0, 0))) := heap_alloc_new wk5 _
  have hb : Below wk5.heap.size wk5 wk6 := by rw [hwk6]; exact (Below.refl _ _).alloc (Nat.le_refl _) _
  have q0 : wk6.heap[wk5.heap.size]? = some (.cells C2 26 (0, 0)) := by rw [hwk6]; exact heap_alloc_new wk5 _
  have qBE := BE.out.trans (hb.mono BE.out.size)
  have qG1 := (hb.block _ (blk_lt G1.out)).trans G1.out
  have qSU := SU.out.below hb
  have qGC := (hb.block _ (blk_lt GC.out)).trans GC.out
  have qSD2 := SD2.out.below hb
  clear BE G1 SU GC SD2
  have BE := Lib.hid qBE
  have G1 := Lib.hid qG1
  have SU := Lib.hid qSU
  have GC := Lib.hid qGC
  have SD2 := Lib.hid qSD2
  clear qBE qG1 qSU qGC qSD2
  have GC2 := Lib.hid q0
  clear q0 hb hwk6
  go_upto_region 9 with (refine wpList_alloc_z rfl 26 rfl (HZ.out _) ?_; refine wpList_store_row rfl 26 (.tmp 9) (.tmp 46) rfl wk5.heap.size C2 rfl rfl 26 Z GZ6.out IC2.out IZ6.out OC2.out ?_; rw [RN6.out])
  go_wp2_with (refine wpList_load_row rfl 26 (.tmp 9) rfl wk5.heap.size rfl 26 C2 (0, 0) _ GC2.out Try.underlying26 rfl IC2.out ?_)
  refine (EBD.out wk6 SD2.out).mono ?_
  rintro e wk7 ⟨x3, c3, rfl, hs, hb⟩
  have qBE := BE.out.trans (hb.mono BE.out.size)
  have qG1 := (hb.block _ (blk_lt G1.out)).trans G1.out
  have qSU := SU.out.below hb
  have qGC := (hb.block _ (blk_lt GC.out)).trans GC.out
  have qSD2 := SD2.out.below hb
  have qGC2 := (hb.block _ (blk_lt GC2.out)).trans GC2.out
  clear BE G1 SU GC SD2 GC2
  have BE := Lib.hid qBE
  have G1 := Lib.hid qG1
  have SU := Lib.hid qSU
  have GC := Lib.hid qGC
  have SD2 := Lib.hid qSD2
  have GC2 := Lib.hid qGC2
  clear qBE qG1 qSU qGC qSD2 qGC2
  have SY := Lib.hid hs
  clear hb hs EBD SD2
  go_wp2_with fail
  refine (AL.out wk7).mono ?_
  rintro e wk8 ⟨rfl, hb⟩
  have qBE := BE.out.trans (hb.mono BE.out.size)
  have qG1 := (hb.block _ (blk_lt G1.out)).trans G1.out
  have qSU := SU.out.below hb
  have qGC := (hb.block _ (blk_lt GC.out)).trans GC.out
  have qGC2 := (hb.block _ (blk_lt GC2.out)).trans GC2.out
  have qSY := SY.out.below hb
  clear BE G1 SU GC GC2 SY
  have BE := Lib.hid qBE
  have G1 := Lib.hid qG1
  have SU := Lib.hid qSU
  have GC := Lib.hid qGC
  have GC2 := Lib.hid qGC2
  have SY := Lib.hid qSY
  clear qBE qG1 qSU qGC qGC2 qSY

  clear hb
  go_wp2_with (refine wpList_load_met rfl 26 (.tmp 2) rfl w.heap.size rfl 26 A (0, 0) _ G1.out Try.underlying26 ⟨_, rfl⟩ ia.out ?_)
  refine (RI.out wk8 BE.out).mono ?_
  rintro e wk9 ⟨rfl, hb⟩
  have qBE := BE.out.trans (hb.mono BE.out.size)
  have qG1 := (hb.block _ (blk_lt G1.out)).trans G1.out
  have qSU := SU.out.below hb
  have qGC := (hb.block _ (blk_lt GC.out)).trans GC.out
  have qGC2 := (hb.block _ (blk_lt GC2.out)).trans GC2.out
  have qSY := SY.out.below hb
  clear BE G1 SU GC GC2 SY
  have BE := Lib.hid qBE
  have G1 := Lib.hid qG1
  have SU := Lib.hid qSU
  have GC := Lib.hid qGC
  have GC2 := Lib.hid qGC2
  have SY := Lib.hid qSY
  clear qBE qG1 qSU qGC qGC2 qSY
  rw [RR.out]
  clear hb
  have cv1 := SY.out.str
  have cv2 := SU.out.str
  have AP : ((strOfNums xs).toList == (strOfNums xs).toList) = true := by simp
  generalize strOfNums xs = SX at cv1 cv2 AP
  go_wp2
  go_ret
  exact ⟨rfl, BE.out⟩

set_option maxRecDepth 100000 in
set_option maxHeartbeats 2000000 in
theorem back_tf {p : Rq} (hp : RQ p) (h5 : p.d.length ≤ 5000) (dv : Value) (u : Value) (xs : List Int) (h6 : xs.length ≤ 5000) (w : World) (hd : Sees w dv p.d) (hu : Sees w u xs) (hr : rightQ p = true) (hk : dOk xs = false) :
    Calls Try.prog 4 #[.agg (rc p dv).toArray, u] w (AliveP w) := by
  have ia := Lib.hid (i26 hp dv)
  obtain ⟨A, hA⟩ : ∃ A, A = (rc p dv).toArray := ⟨_, rfl⟩
  rw [← hA] at ia ⊢
  obtain ⟨Z, hZ⟩ : ∃ Z, Z = (rc (pz 0) (.slice none 0 0)).toArray := ⟨_, rfl⟩
  have z := z26
  rw [← hZ] at z
  have HZ := Lib.hid z
  have IZ : Hid ((Try.prog.info? 26).map (·.size) = some Z.size) := by show _ = _; rw [hZ]; exact i26 pz0_ok _
  obtain ⟨xa, ca, ea, xa63⟩ := hd.form
  obtain ⟨xu, cu, eu, xu63⟩ := hu.form
  obtain ⟨w1, hw1⟩ : ∃ w1, w1 = w.alloc (.cells A 26) := ⟨_, rfl⟩
  have b1 : Below w.heap.size w w1 := by rw [hw1]; exact (Below.refl _ _).alloc (Nat.le_refl _) _
  have g1 : w1.heap[w.heap.size]? = some (.cells A 26 (0, 0)) := by rw [hw1]; exact heap_alloc_new w _
  have ca0 : w1.cell? ⟨w.heap.size, 137, none⟩ = some (.slice xa p.d.length ca) := by rw [← ea]; rw [hA] at g1; exact row_dat hp g1
  have BE := Lib.hid b1
  have G1 := Lib.hid g1
  have SU := Lib.hid (hu.below b1)
  have HW1 := Lib.hid hw1
  have hbd := hd.1
  have EA : Hid (∀ W, Below w.heap.size w W → Calls Try.prog 8 #[.agg A] W (EncP W p)) := fun W h => by rw [hA]; exact encodeC hp h5 dv W (hd.below h)
  have RI : Hid (∀ W, Below w.heap.size w W → Calls Try.prog 15 #[.agg A] W fun e w' => e = .returned (.bool (rightQ p)) ∧ Below W.heap.size W w') := fun W h => by rw [hA]; exact rightC hp h5 dv W (hd.below h)
  have DU : Hid (∀ W, Sees W u xs → Calls Try.prog 12 #[u] W (DecP W xs)) := fun W h => decodeC u xs (by omega) W h
  have DE : Hid (∀ v W, Sees W v (encV p) → Calls Try.prog 12 #[v] W fun e w' => ∃ du, e = .returned (.tuple #[.agg (rc p du).toArray, .int .i64 0]) ∧ Sees w' du p.d ∧ Below W.heap.size W w') := fun v W h => decode_enc hp h5 hr v W hbd h
  have IP : Hid (∀ du : Value, (Try.prog.info? 26).map (·.size) = some (rc p du).toArray.size) := fun du => i26 hp du
  have SM : Hid (∀ du W, Below w.heap.size w W → Sees W du p.d → Calls Try.prog 17 #[.agg (rc p du).toArray, .agg A] W fun e w' => e = .returned (.bool true) ∧ Below W.heap.size W w') := fun du W h hs => by
    rw [hA, ← sameB_refl p]
    exact sameC hp hp du dv W hs (hd.below h)
  have e0 := (encV_yes hr).2
  have kP : decP xs = pz 0 := by unfold decP; rw [if_neg (by rw [hk]; simp)]
  have kE : decE xs = 70 := by unfold decE; rw [if_neg (by rw [hk]; simp)]
  have EB : Hid (∀ du W, Sees W du (pz 0).d → Calls Try.prog 8 #[.agg (rc (pz 0) du).toArray] W (EncP W (pz 0))) := fun du W h => encodeC pz0_ok (Nat.zero_le _) du W h
  have KP := Lib.hid kP
  have KE := Lib.hid kE
  have E0 := Lib.hid e0
  have RR := Lib.hid hr
  have AL : Hid (∀ W : World, Calls Try.prog 7 #[] W (AliveP W)) := alive
  have n5 : decide (5000 < p.d.length) = false := decide_eq_false (by omega)
  have n6 : decide (5000 < xs.length) = false := decide_eq_false (by omega)
  have k5 : ((p.d.length : Nat) : Int) ≤ 5000 := by omega
  have k6 : ((xs.length : Nat) : Int) ≤ 5000 := by omega
  subst eu
  clear z hZ hw1 b1 g1 hd hu hA ea h5 h6 hr hk e0 kP kE hp xa63 xu63 hbd
  generalize p.d.length = np at n5 k5 ca0
  go_enter Try.func4, Try.ntmps4
  go_wp2_with (first | rw [← HW1.out] | refine wpList_load_row rfl 26 (.tmp 2) rfl w.heap.size rfl 26 A (0, 0) _ G1.out Try.underlying26 rfl ia.out ?_)
  refine (EA.out w1 BE.out).mono ?_
  rintro e wk1 ⟨x1, c1, rfl, hs, hb⟩
  have qBE := BE.out.trans (hb.mono BE.out.size)
  have qG1 := (hb.block _ (blk_lt G1.out)).trans G1.out
  have qSU := SU.out.below hb
  clear BE G1 SU
  have BE := Lib.hid qBE
  have G1 := Lib.hid qG1
  have SU := Lib.hid qSU
  clear qBE qG1 qSU
  rw [E0.out]
  have SX := Lib.hid hs
  clear n5 k5 ca0
  clear hb hs
  go_wp2_with fail
  refine (DE.out _ wk1 SX.out).mono ?_
  rintro e wk2 ⟨du, rfl, hs, hb⟩
  have qBE := BE.out.trans (hb.mono BE.out.size)
  have qG1 := (hb.block _ (blk_lt G1.out)).trans G1.out
  have qSU := SU.out.below hb
  have qSX := SX.out.below hb
  clear BE G1 SU SX
  have BE := Lib.hid qBE
  have G1 := Lib.hid qG1
  have SU := Lib.hid qSU
  have SX := Lib.hid qSX
  clear qBE qG1 qSU qSX
  have IC := Lib.hid (IP.out du)
  have OC := Lib.hid (rc_one (p := p) hs.one)
  have SMD : Hid (∀ W, Below w.heap.size w W → Sees W du p.d → Calls Try.prog 17 #[.agg (rc p du).toArray, .agg A] W fun e w' => e = .returned (.bool true) ∧ Below W.heap.size W w') := fun W h hs => SM.out du W h hs
  have SD := Lib.hid hs
  generalize (rc p du).toArray = C at IC OC SMD ⊢
  clear hb hs SX DE IP SM
  obtain ⟨wk3, hwk3⟩ : ∃ x, x = wk2.alloc (.cells C 26) := ⟨_, rfl⟩
  have RN3 : Hid ((wk2.alloc (.cells Z 26)).setRow wk2.heap.size C = wk3) := by show _ = _; rw [hwk3]; exact alloc_setRowT wk2 Z C 26 _ rfl
  have IZ3 : Hid (Z.size = C.size) := Option.some.inj (IZ.out.symm.trans IC.out)
  have GZ3 : Hid ((wk2.alloc (.cells Z 26)).heap[wk2.heap.size]? = some (.cells Z 26 (0, 0))) := heap_alloc_new wk2 _
  have hb : Below wk2.heap.size wk2 wk3 := by rw [hwk3]; exact (Below.refl _ _).alloc (Nat.le_refl _) _
  have q0 : wk3.heap[wk2.heap.size]? = some (.cells C 26 (0, 0)) := by rw [hwk3]; exact heap_alloc_new wk2 _
  have qBE := BE.out.trans (hb.mono BE.out.size)
  have qG1 := (hb.block _ (blk_lt G1.out)).trans G1.out
  have qSU := SU.out.below hb
  have qSD := SD.out.below hb
  clear BE G1 SU SD
  have BE := Lib.hid qBE
  have G1 := Lib.hid qG1
  have SU := Lib.hid qSU
  have SD := Lib.hid qSD
  clear qBE qG1 qSU qSD
  have GC := Lib.hid q0
  clear q0 hb hwk3
  go_upto_region 6 with (refine wpList_alloc_z rfl 26 rfl (HZ.out _) ?_; refine wpList_store_row rfl 26 (.tmp 7) (.tmp 33) rfl wk2.heap.size C rfl rfl 26 Z GZ3.out IC.out IZ3.out OC.out ?_; rw [RN3.out])
  go_wp2_with (first | refine wpList_load_met rfl 26 (.tmp 7) rfl wk2.heap.size rfl 26 C (0, 0) _ GC.out Try.underlying26 ⟨_, rfl⟩ IC.out ?_ | refine wpList_load_met rfl 26 (.tmp 2) rfl w.heap.size rfl 26 A (0, 0) _ G1.out Try.underlying26 ⟨_, rfl⟩ ia.out ?_)
  refine (SMD.out wk3 BE.out SD.out).mono ?_
  rintro e wk4 ⟨rfl, hb⟩
  have qBE := BE.out.trans (hb.mono BE.out.size)
  have qG1 := (hb.block _ (blk_lt G1.out)).trans G1.out
  have qSU := SU.out.below hb
  have qSD := SD.out.below hb
  have qGC := (hb.block _ (blk_lt GC.out)).trans GC.out
  clear BE G1 SU SD GC
  have BE := Lib.hid qBE
  have G1 := Lib.hid qG1
  have SU := Lib.hid qSU
  have SD := Lib.hid qSD
  have GC := Lib.hid qGC
  clear qBE qG1 qSU qSD qGC

  clear hb
  clear SMD SD
  go_wp2_with fail
  refine (DU.out wk4 SU.out).mono ?_
  rintro e wk5 ⟨du2, rfl, hq, hs, _, hb⟩
  have qBE := BE.out.trans (hb.mono BE.out.size)
  have qG1 := (hb.block _ (blk_lt G1.out)).trans G1.out
  have qSU := SU.out.below hb
  have qGC := (hb.block _ (blk_lt GC.out)).trans GC.out
  clear BE G1 SU GC
  have BE := Lib.hid qBE
  have G1 := Lib.hid qG1
  have SU := Lib.hid qSU
  have GC := Lib.hid qGC
  clear qBE qG1 qSU qGC
  rw [KE.out]
  have IC2 := Lib.hid (i26 hq du2)
  have OC2 := Lib.hid (rc_one (p := decP xs) hs.one)
  have hs2 := hs
  rw [KP.out] at hs2 IC2 OC2 ⊢
  have EBD := Lib.hid (fun W h => EB.out du2 W h)
  have SD2 := Lib.hid hs2
  generalize (rc (pz 0) du2).toArray = C2 at IC2 OC2 EBD ⊢
  clear hb hs hs2 hq DU EB KP KE
  obtain ⟨wk6, hwk6⟩ : ∃ x, x = wk5.alloc (.cells C2 26) := ⟨_, rfl⟩
  have RN6 : Hid ((wk5.alloc (.cells Z 26)).setRow wk5.heap.size C2 = wk6) := by show _ = _; rw [hwk6]; exact alloc_setRowT wk5 Z C2 26 _ rfl
  have IZ6 : Hid (Z.size = C2.size) := Option.some.inj (IZ.out.symm.trans IC2.out)
  have GZ6 : Hid ((wk5.alloc (.cells Z 26)).heap[wk5.heap.size]? = some (.cells Z 26 (0, 0))) := heap_alloc_new wk5 _
  have hb : Below wk5.heap.size wk5 wk6 := by rw [hwk6]; exact (Below.refl _ _).alloc (Nat.le_refl _) _
  have q0 : wk6.heap[wk5.heap.size]? = some (.cells C2 26 (0, 0)) := by rw [hwk6]; exact heap_alloc_new wk5 _
  have qBE := BE.out.trans (hb.mono BE.out.size)
  have qG1 := (hb.block _ (blk_lt G1.out)).trans G1.out
  have qSU := SU.out.below hb
  have qGC := (hb.block _ (blk_lt GC.out)).trans GC.out
  have qSD2 := SD2.out.below hb
  clear BE G1 SU GC SD2
  have BE := Lib.hid qBE
  have G1 := Lib.hid qG1
  have SU := Lib.hid qSU
  have GC := Lib.hid qGC
  have SD2 := Lib.hid qSD2
  clear qBE qG1 qSU qGC qSD2
  have GC2 := Lib.hid q0
  clear q0 hb hwk6
  go_upto_region 9 with (refine wpList_alloc_z rfl 26 rfl (HZ.out _) ?_; refine wpList_store_row rfl 26 (.tmp 9) (.tmp 46) rfl wk5.heap.size C2 rfl rfl 26 Z GZ6.out IC2.out IZ6.out OC2.out ?_; rw [RN6.out])
  go_wp2_with (refine wpList_load_row rfl 26 (.tmp 9) rfl wk5.heap.size rfl 26 C2 (0, 0) _ GC2.out Try.underlying26 rfl IC2.out ?_)
  refine (EBD.out wk6 SD2.out).mono ?_
  rintro e wk7 ⟨x3, c3, rfl, hs, hb⟩
  have qBE := BE.out.trans (hb.mono BE.out.size)
  have qG1 := (hb.block _ (blk_lt G1.out)).trans G1.out
  have qSU := SU.out.below hb
  have qGC := (hb.block _ (blk_lt GC.out)).trans GC.out
  have qSD2 := SD2.out.below hb
  have qGC2 := (hb.block _ (blk_lt GC2.out)).trans GC2.out
  clear BE G1 SU GC SD2 GC2
  have BE := Lib.hid qBE
  have G1 := Lib.hid qG1
  have SU := Lib.hid qSU
  have GC := Lib.hid qGC
  have SD2 := Lib.hid qSD2
  have GC2 := Lib.hid qGC2
  clear qBE qG1 qSU qGC qSD2 qGC2
  have SY := Lib.hid hs
  rw [encE_no pz0_no]
  clear hb hs EBD SD2
  go_wp2_with fail
  refine (AL.out wk7).mono ?_
  rintro e wk8 ⟨rfl, hb⟩
  have qBE := BE.out.trans (hb.mono BE.out.size)
  have qG1 := (hb.block _ (blk_lt G1.out)).trans G1.out
  have qSU := SU.out.below hb
  have qGC := (hb.block _ (blk_lt GC.out)).trans GC.out
  have qGC2 := (hb.block _ (blk_lt GC2.out)).trans GC2.out
  have qSY := SY.out.below hb
  clear BE G1 SU GC GC2 SY
  have BE := Lib.hid qBE
  have G1 := Lib.hid qG1
  have SU := Lib.hid qSU
  have GC := Lib.hid qGC
  have GC2 := Lib.hid qGC2
  have SY := Lib.hid qSY
  clear qBE qG1 qSU qGC qGC2 qSY

  clear hb
  go_wp2_with (refine wpList_load_met rfl 26 (.tmp 2) rfl w.heap.size rfl 26 A (0, 0) _ G1.out Try.underlying26 ⟨_, rfl⟩ ia.out ?_)
  refine (RI.out wk8 BE.out).mono ?_
  rintro e wk9 ⟨rfl, hb⟩
  have qBE := BE.out.trans (hb.mono BE.out.size)
  have qG1 := (hb.block _ (blk_lt G1.out)).trans G1.out
  have qSU := SU.out.below hb
  have qGC := (hb.block _ (blk_lt GC.out)).trans GC.out
  have qGC2 := (hb.block _ (blk_lt GC2.out)).trans GC2.out
  have qSY := SY.out.below hb
  clear BE G1 SU GC GC2 SY
  have BE := Lib.hid qBE
  have G1 := Lib.hid qG1
  have SU := Lib.hid qSU
  have GC := Lib.hid qGC
  have GC2 := Lib.hid qGC2
  have SY := Lib.hid qSY
  clear qBE qG1 qSU qGC qGC2 qSY
  rw [RR.out]
  clear hb
  go_wp2
  go_ret
  exact ⟨rfl, BE.out⟩

set_option maxRecDepth 100000 in
set_option maxHeartbeats 2000000 in
theorem back_ft {p : Rq} (hp : RQ p) (h5 : p.d.length ≤ 5000) (dv : Value) (u : Value) (xs : List Int) (h6 : xs.length ≤ 5000) (w : World) (hd : Sees w dv p.d) (hu : Sees w u xs) (hr : rightQ p = false) (hk : dOk xs = true) :
    Calls Try.prog 4 #[.agg (rc p dv).toArray, u] w (AliveP w) := by
  have ia := Lib.hid (i26 hp dv)
  obtain ⟨A, hA⟩ : ∃ A, A = (rc p dv).toArray := ⟨_, rfl⟩
  rw [← hA] at ia ⊢
  obtain ⟨Z, hZ⟩ : ∃ Z, Z = (rc (pz 0) (.slice none 0 0)).toArray := ⟨_, rfl⟩
  have z := z26
  rw [← hZ] at z
  have HZ := Lib.hid z
  have IZ : Hid ((Try.prog.info? 26).map (·.size) = some Z.size) := by show _ = _; rw [hZ]; exact i26 pz0_ok _
  obtain ⟨xa, ca, ea, xa63⟩ := hd.form
  obtain ⟨xu, cu, eu, xu63⟩ := hu.form
  obtain ⟨w1, hw1⟩ : ∃ w1, w1 = w.alloc (.cells A 26) := ⟨_, rfl⟩
  have b1 : Below w.heap.size w w1 := by rw [hw1]; exact (Below.refl _ _).alloc (Nat.le_refl _) _
  have g1 : w1.heap[w.heap.size]? = some (.cells A 26 (0, 0)) := by rw [hw1]; exact heap_alloc_new w _
  have ca0 : w1.cell? ⟨w.heap.size, 137, none⟩ = some (.slice xa p.d.length ca) := by rw [← ea]; rw [hA] at g1; exact row_dat hp g1
  have BE := Lib.hid b1
  have G1 := Lib.hid g1
  have SU := Lib.hid (hu.below b1)
  have HW1 := Lib.hid hw1
  have hbd := hd.1
  have EA : Hid (∀ W, Below w.heap.size w W → Calls Try.prog 8 #[.agg A] W (EncP W p)) := fun W h => by rw [hA]; exact encodeC hp h5 dv W (hd.below h)
  have RI : Hid (∀ W, Below w.heap.size w W → Calls Try.prog 15 #[.agg A] W fun e w' => e = .returned (.bool (rightQ p)) ∧ Below W.heap.size W w') := fun W h => by rw [hA]; exact rightC hp h5 dv W (hd.below h)
  have DU : Hid (∀ W, Sees W u xs → Calls Try.prog 12 #[u] W (DecP W xs)) := fun W h => decodeC u xs (by omega) W h
  have e0 := encE_no hr
  have bk := dec_back hu.1 (by omega : xs.length ≤ 10000) hk
  obtain ⟨kq, kx, kl, kr⟩ := bk
  have kP : decP xs = (dA xs).1 := by unfold decP; rw [if_pos hk]
  have kE : decE xs = 0 := by unfold decE; rw [if_pos hk]
  have EB : Hid (∀ du W, Sees W du (dA xs).1.d → Calls Try.prog 8 #[.agg (rc (dA xs).1 du).toArray] W fun e w' => ∃ x cap, e = .returned (.tuple #[.slice x xs.length cap, .int .i64 0]) ∧ Sees w' (.slice x xs.length cap) xs ∧ Below W.heap.size W w') := fun du W h => by
    refine (encodeC kq (by omega) du W h).mono fun e w' hh => ?_
    obtain ⟨x, cap, h1, h2, h3⟩ := hh
    rw [(encV_yes kr).1, (encV_yes kr).2, ← kx] at h1
    rw [(encV_yes kr).1, ← kx] at h2
    exact ⟨x, cap, h1, h2, h3⟩
  have AP : ((strOfNums xs).toList == (strOfNums xs).toList) = true := by simp
  have KP := Lib.hid kP
  have KE := Lib.hid kE
  have E0 := Lib.hid e0
  have RR := Lib.hid hr
  have AL : Hid (∀ W : World, Calls Try.prog 7 #[] W (AliveP W)) := alive
  have n5 : decide (5000 < p.d.length) = false := decide_eq_false (by omega)
  have n6 : decide (5000 < xs.length) = false := decide_eq_false (by omega)
  have k5 : ((p.d.length : Nat) : Int) ≤ 5000 := by omega
  have k6 : ((xs.length : Nat) : Int) ≤ 5000 := by omega
  subst eu
  clear z hZ hw1 b1 g1 hd hu hA ea h5 h6 hr hk e0 kP kE hp xa63 xu63 hbd kq kx kl kr AP
  generalize p.d.length = np at n5 k5 ca0
  go_enter Try.func4, Try.ntmps4
  go_wp2_with (first | rw [← HW1.out] | refine wpList_load_row rfl 26 (.tmp 2) rfl w.heap.size rfl 26 A (0, 0) _ G1.out Try.underlying26 rfl ia.out ?_)
  refine (EA.out w1 BE.out).mono ?_
  rintro e wk1 ⟨x1, c1, rfl, hs, hb⟩
  have qBE := BE.out.trans (hb.mono BE.out.size)
  have qG1 := (hb.block _ (blk_lt G1.out)).trans G1.out
  have qSU := SU.out.below hb
  clear BE G1 SU
  have BE := Lib.hid qBE
  have G1 := Lib.hid qG1
  have SU := Lib.hid qSU
  clear qBE qG1 qSU
  rw [E0.out]
  have SX := Lib.hid hs
  clear n5 k5 ca0
  clear hb hs
  clear SX
  go_wp2_with fail
  refine (DU.out wk1 SU.out).mono ?_
  rintro e wk2 ⟨du2, rfl, hq, hs, _, hb⟩
  have qBE := BE.out.trans (hb.mono BE.out.size)
  have qG1 := (hb.block _ (blk_lt G1.out)).trans G1.out
  have qSU := SU.out.below hb
  clear BE G1 SU
  have BE := Lib.hid qBE
  have G1 := Lib.hid qG1
  have SU := Lib.hid qSU
  clear qBE qG1 qSU
  rw [KE.out]
  have IC2 := Lib.hid (i26 hq du2)
  have OC2 := Lib.hid (rc_one (p := decP xs) hs.one)
  have hs2 := hs
  rw [KP.out] at hs2 IC2 OC2 ⊢
  have EBD := Lib.hid (fun W h => EB.out du2 W h)
  have SD2 := Lib.hid hs2
  generalize (rc (dA xs).1 du2).toArray = C2 at IC2 OC2 EBD ⊢
  clear hb hs hs2 hq DU EB KP KE
  obtain ⟨wk3, hwk3⟩ : ∃ x, x = wk2.alloc (.cells C2 26) := ⟨_, rfl⟩
  have RN3 : Hid ((wk2.alloc (.cells Z 26)).setRow wk2.heap.size C2 = wk3) := by show _ = _; rw [hwk3]; exact alloc_setRowT wk2 Z C2 26 _ rfl
  have IZ3 : Hid (Z.size = C2.size) := Option.some.inj (IZ.out.symm.trans IC2.out)
  have GZ3 : Hid ((wk2.alloc (.cells Z 26)).heap[wk2.heap.size]? = some (.cells Z 26 (0, 0))) := heap_alloc_new wk2 _
  have hb : Below wk2.heap.size wk2 wk3 := by rw [hwk3]; exact (Below.refl _ _).alloc (Nat.le_refl _) _
  have q0 : wk3.heap[wk2.heap.size]? = some (.cells C2 26 (0, 0)) := by rw [hwk3]; exact heap_alloc_new wk2 _
  have qBE := BE.out.trans (hb.mono BE.out.size)
  have qG1 := (hb.block _ (blk_lt G1.out)).trans G1.out
  have qSU := SU.out.below hb
  have qSD2 := SD2.out.below hb
  clear BE G1 SU SD2
  have BE := Lib.hid qBE
  have G1 := Lib.hid qG1
  have SU := Lib.hid qSU
  have SD2 := Lib.hid qSD2
  clear qBE qG1 qSU qSD2
  have GC2 := Lib.hid q0
  clear q0 hb hwk3
  go_upto_region 9 with (refine wpList_alloc_z rfl 26 rfl (HZ.out _) ?_; refine wpList_store_row rfl 26 (.tmp 9) (.tmp 46) rfl wk2.heap.size C2 rfl rfl 26 Z GZ3.out IC2.out IZ3.out OC2.out ?_; rw [RN3.out])
  go_wp2_with (refine wpList_load_row rfl 26 (.tmp 9) rfl wk2.heap.size rfl 26 C2 (0, 0) _ GC2.out Try.underlying26 rfl IC2.out ?_)
  refine (EBD.out wk3 SD2.out).mono ?_
  rintro e wk4 ⟨x3, c3, rfl, hs, hb⟩
  have qBE := BE.out.trans (hb.mono BE.out.size)
  have qG1 := (hb.block _ (blk_lt G1.out)).trans G1.out
  have qSU := SU.out.below hb
  have qSD2 := SD2.out.below hb
  have qGC2 := (hb.block _ (blk_lt GC2.out)).trans GC2.out
  clear BE G1 SU SD2 GC2
  have BE := Lib.hid qBE
  have G1 := Lib.hid qG1
  have SU := Lib.hid qSU
  have SD2 := Lib.hid qSD2
  have GC2 := Lib.hid qGC2
  clear qBE qG1 qSU qSD2 qGC2
  have SY := Lib.hid hs
  clear hb hs EBD SD2
  go_wp2_with fail
  refine (AL.out wk4).mono ?_
  rintro e wk5 ⟨rfl, hb⟩
  have qBE := BE.out.trans (hb.mono BE.out.size)
  have qG1 := (hb.block _ (blk_lt G1.out)).trans G1.out
  have qSU := SU.out.below hb
  have qGC2 := (hb.block _ (blk_lt GC2.out)).trans GC2.out
  have qSY := SY.out.below hb
  clear BE G1 SU GC2 SY
  have BE := Lib.hid qBE
  have G1 := Lib.hid qG1
  have SU := Lib.hid qSU
  have GC2 := Lib.hid qGC2
  have SY := Lib.hid qSY
  clear qBE qG1 qSU qGC2 qSY

  clear hb
  go_wp2_with (refine wpList_load_met rfl 26 (.tmp 2) rfl w.heap.size rfl 26 A (0, 0) _ G1.out Try.underlying26 ⟨_, rfl⟩ ia.out ?_)
  refine (RI.out wk5 BE.out).mono ?_
  rintro e wk6 ⟨rfl, hb⟩
  have qBE := BE.out.trans (hb.mono BE.out.size)
  have qG1 := (hb.block _ (blk_lt G1.out)).trans G1.out
  have qSU := SU.out.below hb
  have qGC2 := (hb.block _ (blk_lt GC2.out)).trans GC2.out
  have qSY := SY.out.below hb
  clear BE G1 SU GC2 SY
  have BE := Lib.hid qBE
  have G1 := Lib.hid qG1
  have SU := Lib.hid qSU
  have GC2 := Lib.hid qGC2
  have SY := Lib.hid qSY
  clear qBE qG1 qSU qGC2 qSY
  rw [RR.out]
  clear hb
  have cv1 := SY.out.str
  have cv2 := SU.out.str
  have AP : ((strOfNums xs).toList == (strOfNums xs).toList) = true := by simp
  generalize strOfNums xs = SX at cv1 cv2 AP
  go_wp2
  go_ret
  exact ⟨rfl, BE.out⟩

set_option maxRecDepth 100000 in
set_option maxHeartbeats 2000000 in
theorem back_ff {p : Rq} (hp : RQ p) (h5 : p.d.length ≤ 5000) (dv : Value) (u : Value) (xs : List Int) (h6 : xs.length ≤ 5000) (w : World) (hd : Sees w dv p.d) (hu : Sees w u xs) (hr : rightQ p = false) (hk : dOk xs = false) :
    Calls Try.prog 4 #[.agg (rc p dv).toArray, u] w (AliveP w) := by
  have ia := Lib.hid (i26 hp dv)
  obtain ⟨A, hA⟩ : ∃ A, A = (rc p dv).toArray := ⟨_, rfl⟩
  rw [← hA] at ia ⊢
  obtain ⟨Z, hZ⟩ : ∃ Z, Z = (rc (pz 0) (.slice none 0 0)).toArray := ⟨_, rfl⟩
  have z := z26
  rw [← hZ] at z
  have HZ := Lib.hid z
  have IZ : Hid ((Try.prog.info? 26).map (·.size) = some Z.size) := by show _ = _; rw [hZ]; exact i26 pz0_ok _
  obtain ⟨xa, ca, ea, xa63⟩ := hd.form
  obtain ⟨xu, cu, eu, xu63⟩ := hu.form
  obtain ⟨w1, hw1⟩ : ∃ w1, w1 = w.alloc (.cells A 26) := ⟨_, rfl⟩
  have b1 : Below w.heap.size w w1 := by rw [hw1]; exact (Below.refl _ _).alloc (Nat.le_refl _) _
  have g1 : w1.heap[w.heap.size]? = some (.cells A 26 (0, 0)) := by rw [hw1]; exact heap_alloc_new w _
  have ca0 : w1.cell? ⟨w.heap.size, 137, none⟩ = some (.slice xa p.d.length ca) := by rw [← ea]; rw [hA] at g1; exact row_dat hp g1
  have BE := Lib.hid b1
  have G1 := Lib.hid g1
  have SU := Lib.hid (hu.below b1)
  have HW1 := Lib.hid hw1
  have hbd := hd.1
  have EA : Hid (∀ W, Below w.heap.size w W → Calls Try.prog 8 #[.agg A] W (EncP W p)) := fun W h => by rw [hA]; exact encodeC hp h5 dv W (hd.below h)
  have RI : Hid (∀ W, Below w.heap.size w W → Calls Try.prog 15 #[.agg A] W fun e w' => e = .returned (.bool (rightQ p)) ∧ Below W.heap.size W w') := fun W h => by rw [hA]; exact rightC hp h5 dv W (hd.below h)
  have DU : Hid (∀ W, Sees W u xs → Calls Try.prog 12 #[u] W (DecP W xs)) := fun W h => decodeC u xs (by omega) W h
  have e0 := encE_no hr
  have kP : decP xs = pz 0 := by unfold decP; rw [if_neg (by rw [hk]; simp)]
  have kE : decE xs = 70 := by unfold decE; rw [if_neg (by rw [hk]; simp)]
  have EB : Hid (∀ du W, Sees W du (pz 0).d → Calls Try.prog 8 #[.agg (rc (pz 0) du).toArray] W (EncP W (pz 0))) := fun du W h => encodeC pz0_ok (Nat.zero_le _) du W h
  have KP := Lib.hid kP
  have KE := Lib.hid kE
  have E0 := Lib.hid e0
  have RR := Lib.hid hr
  have AL : Hid (∀ W : World, Calls Try.prog 7 #[] W (AliveP W)) := alive
  have n5 : decide (5000 < p.d.length) = false := decide_eq_false (by omega)
  have n6 : decide (5000 < xs.length) = false := decide_eq_false (by omega)
  have k5 : ((p.d.length : Nat) : Int) ≤ 5000 := by omega
  have k6 : ((xs.length : Nat) : Int) ≤ 5000 := by omega
  subst eu
  clear z hZ hw1 b1 g1 hd hu hA ea h5 h6 hr hk e0 kP kE hp xa63 xu63 hbd
  generalize p.d.length = np at n5 k5 ca0
  go_enter Try.func4, Try.ntmps4
  go_wp2_with (first | rw [← HW1.out] | refine wpList_load_row rfl 26 (.tmp 2) rfl w.heap.size rfl 26 A (0, 0) _ G1.out Try.underlying26 rfl ia.out ?_)
  refine (EA.out w1 BE.out).mono ?_
  rintro e wk1 ⟨x1, c1, rfl, hs, hb⟩
  have qBE := BE.out.trans (hb.mono BE.out.size)
  have qG1 := (hb.block _ (blk_lt G1.out)).trans G1.out
  have qSU := SU.out.below hb
  clear BE G1 SU
  have BE := Lib.hid qBE
  have G1 := Lib.hid qG1
  have SU := Lib.hid qSU
  clear qBE qG1 qSU
  rw [E0.out]
  have SX := Lib.hid hs
  clear n5 k5 ca0
  clear hb hs
  clear SX
  go_wp2_with fail
  refine (DU.out wk1 SU.out).mono ?_
  rintro e wk2 ⟨du2, rfl, hq, hs, _, hb⟩
  have qBE := BE.out.trans (hb.mono BE.out.size)
  have qG1 := (hb.block _ (blk_lt G1.out)).trans G1.out
  have qSU := SU.out.below hb
  clear BE G1 SU
  have BE := Lib.hid qBE
  have G1 := Lib.hid qG1
  have SU := Lib.hid qSU
  clear qBE qG1 qSU
  rw [KE.out]
  have IC2 := Lib.hid (i26 hq du2)
  have OC2 := Lib.hid (rc_one (p := decP xs) hs.one)
  have hs2 := hs
  rw [KP.out] at hs2 IC2 OC2 ⊢
  have EBD := Lib.hid (fun W h => EB.out du2 W h)
  have SD2 := Lib.hid hs2
  generalize (rc (pz 0) du2).toArray = C2 at IC2 OC2 EBD ⊢
  clear hb hs hs2 hq DU EB KP KE
  obtain ⟨wk3, hwk3⟩ : ∃ x, x = wk2.alloc (.cells C2 26) := ⟨_, rfl⟩
  have RN3 : Hid ((wk2.alloc (.cells Z 26)).setRow wk2.heap.size C2 = wk3) := by show _ = _; rw [hwk3]; exact alloc_setRowT wk2 Z C2 26 _ rfl
  have IZ3 : Hid (Z.size = C2.size) := Option.some.inj (IZ.out.symm.trans IC2.out)
  have GZ3 : Hid ((wk2.alloc (.cells Z 26)).heap[wk2.heap.size]? = some (.cells Z 26 (0, 0))) := heap_alloc_new wk2 _
  have hb : Below wk2.heap.size wk2 wk3 := by rw [hwk3]; exact (Below.refl _ _).alloc (Nat.le_refl _) _
  have q0 : wk3.heap[wk2.heap.size]? = some (.cells C2 26 (0, 0)) := by rw [hwk3]; exact heap_alloc_new wk2 _
  have qBE := BE.out.trans (hb.mono BE.out.size)
  have qG1 := (hb.block _ (blk_lt G1.out)).trans G1.out
  have qSU := SU.out.below hb
  have qSD2 := SD2.out.below hb
  clear BE G1 SU SD2
  have BE := Lib.hid qBE
  have G1 := Lib.hid qG1
  have SU := Lib.hid qSU
  have SD2 := Lib.hid qSD2
  clear qBE qG1 qSU qSD2
  have GC2 := Lib.hid q0
  clear q0 hb hwk3
  go_upto_region 9 with (refine wpList_alloc_z rfl 26 rfl (HZ.out _) ?_; refine wpList_store_row rfl 26 (.tmp 9) (.tmp 46) rfl wk2.heap.size C2 rfl rfl 26 Z GZ3.out IC2.out IZ3.out OC2.out ?_; rw [RN3.out])
  go_wp2_with (refine wpList_load_row rfl 26 (.tmp 9) rfl wk2.heap.size rfl 26 C2 (0, 0) _ GC2.out Try.underlying26 rfl IC2.out ?_)
  refine (EBD.out wk3 SD2.out).mono ?_
  rintro e wk4 ⟨x3, c3, rfl, hs, hb⟩
  have qBE := BE.out.trans (hb.mono BE.out.size)
  have qG1 := (hb.block _ (blk_lt G1.out)).trans G1.out
  have qSU := SU.out.below hb
  have qSD2 := SD2.out.below hb
  have qGC2 := (hb.block _ (blk_lt GC2.out)).trans GC2.out
  clear BE G1 SU SD2 GC2
  have BE := Lib.hid qBE
  have G1 := Lib.hid qG1
  have SU := Lib.hid qSU
  have SD2 := Lib.hid qSD2
  have GC2 := Lib.hid qGC2
  clear qBE qG1 qSU qSD2 qGC2
  have SY := Lib.hid hs
  rw [encE_no pz0_no]
  clear hb hs EBD SD2
  go_wp2_with fail
  refine (AL.out wk4).mono ?_
  rintro e wk5 ⟨rfl, hb⟩
  have qBE := BE.out.trans (hb.mono BE.out.size)
  have qG1 := (hb.block _ (blk_lt G1.out)).trans G1.out
  have qSU := SU.out.below hb
  have qGC2 := (hb.block _ (blk_lt GC2.out)).trans GC2.out
  have qSY := SY.out.below hb
  clear BE G1 SU GC2 SY
  have BE := Lib.hid qBE
  have G1 := Lib.hid qG1
  have SU := Lib.hid qSU
  have GC2 := Lib.hid qGC2
  have SY := Lib.hid qSY
  clear qBE qG1 qSU qGC2 qSY

  clear hb
  go_wp2_with (refine wpList_load_met rfl 26 (.tmp 2) rfl w.heap.size rfl 26 A (0, 0) _ G1.out Try.underlying26 ⟨_, rfl⟩ ia.out ?_)
  refine (RI.out wk5 BE.out).mono ?_
  rintro e wk6 ⟨rfl, hb⟩
  have qBE := BE.out.trans (hb.mono BE.out.size)
  have qG1 := (hb.block _ (blk_lt G1.out)).trans G1.out
  have qSU := SU.out.below hb
  have qGC2 := (hb.block _ (blk_lt GC2.out)).trans GC2.out
  have qSY := SY.out.below hb
  clear BE G1 SU GC2 SY
  have BE := Lib.hid qBE
  have G1 := Lib.hid qG1
  have SU := Lib.hid qSU
  have GC2 := Lib.hid qGC2
  have SY := Lib.hid qSY
  clear qBE qG1 qSU qGC2 qSY
  rw [RR.out]
  clear hb
  go_wp2
  go_ret
  exact ⟨rfl, BE.out⟩

set_option maxRecDepth 100000 in
set_option maxHeartbeats 1000000 in
theorem back_great {p : Rq} (hp : RQ (bare p)) (dv u : Value) (xs : List Int) (w : World) (hd : Sees w dv p.d) (hu : Sees w u xs) (hg : 5000 < p.d.length ∨ 5000 < xs.length) :
    Calls Try.prog 4 #[.agg (rc p dv).toArray, u] w (AliveP w) := by
  obtain ⟨xa, ca, _, ka, ea⟩ := great_cell hp hd
  obtain ⟨xu, cu, rfl, xu63⟩ := hu.form
  generalize (rc p dv).toArray = A at *
  obtain ⟨w1, hw1⟩ : ∃ w1, w1 = w.alloc (.cells A 26) := ⟨_, rfl⟩
  have b1 : Below w.heap.size w w1 := by rw [hw1]; exact (Below.refl _ _).alloc (Nat.le_refl _) _
  have g1 : w1.heap[w.heap.size]? = some (.cells A 26 (0, 0)) := by rw [hw1]; exact heap_alloc_new w _
  have ca0 : w1.cell? ⟨w.heap.size, 137, none⟩ = some (.slice xa p.d.length ca) := by rw [cell_of_row w1 _ _ _ _ _ g1]; exact ea
  have BE := Lib.hid b1
  have HW1 := Lib.hid hw1
  clear hw1 b1 g1 hd ea hp hu
  generalize p.d.length = np at *
  generalize xs.length = nq at *
  by_cases hp5 : 5000 < np
  · have n5 : decide (5000 < np) = true := decide_eq_true hp5
    have k5 : (5000 : Int) < (np : Int) := by omega
    clear hg
    go_enter Try.func4, Try.ntmps4
    go_wp2_with (rw [← HW1.out])
    refine (alive _).mono ?_
    rintro e w3 ⟨rfl, hb⟩
    have B3 := Lib.hid (BE.out.trans (hb.mono BE.out.size))
    clear hb
    go_wp2_with fail
    go_ret
    exact ⟨rfl, B3.out⟩
  · have hq5 : 5000 < nq := by omega
    have n5 : decide (5000 < np) = false := decide_eq_false hp5
    have n6 : decide (5000 < nq) = true := decide_eq_true hq5
    have k5 : ((np : Nat) : Int) ≤ 5000 := by omega
    have k6 : (5000 : Int) < (nq : Int) := by omega
    clear hg
    go_enter Try.func4, Try.ntmps4
    go_wp2_with (rw [← HW1.out])
    refine (alive _).mono ?_
    rintro e w3 ⟨rfl, hb⟩
    have B3 := Lib.hid (BE.out.trans (hb.mono BE.out.size))
    clear hb
    go_wp2_with fail
    go_ret
    exact ⟨rfl, B3.out⟩
end Go.Proofs.Ytdohggpajhkkhaa
