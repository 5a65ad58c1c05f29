/-
  The walk of ReqCut, way b. Condition: the argument reads as a request.
-/
import Derived.Test.YtdohggpajhkkhaaRqT
namespace Go.Proofs.Ytdohggpajhkkhaa
open Go.RowKit

set_option maxRecDepth 100000 in
set_option maxHeartbeats 600000 in
theorem cut_b {p : Rq} (hp : RQ p) (h5 : p.d.length ≤ 5000) (dv : Value) (at_ : Int) (hat : i64 at_) (m : Int) (hm : 0 ≤ m ∧ m ≤ 255) (w : World) (hd : Sees w dv p.d) (hr : rightQ p = true) (k : Nat) (hk : at_ = (k : Int)) (hkn : k < (encV p).length) (h4 : p.k = 4) (h7 : 7 < k) (h512 : (k - 7) % 512 = 0) :
    Calls Try.prog 6 #[.agg (rc p dv).toArray, .int .i64 at_, .int .u8 m] w (AliveP w) := by
  subst hk
  have ia := Lib.hid (i26 hp dv)
  obtain ⟨A, hA⟩ : ∃ A, A = (rc p dv).toArray := ⟨_, rfl⟩
  rw [← hA] at ia ⊢
  obtain ⟨xa, ca, ea, xa63⟩ := hd.form
  obtain ⟨w1, hw1⟩ : ∃ w1, w1 = w.alloc (.cells A 26) := ⟨_, rfl⟩
  have b1 : Below w.heap.size w w1 := by rw [hw1]; exact (Below.refl _ _).alloc (Nat.le_refl _) _
  have g1 : w1.heap[w.heap.size]? = some (.cells A 26 (0, 0)) := by rw [hw1]; exact heap_alloc_new w _
  have CD : Hid (∀ W : World, W.heap[w.heap.size]? = some (.cells A 26 (0, 0)) → W.cell? ⟨w.heap.size, 137, none⟩ = some (.slice xa p.d.length ca) ∧ W.cell? ⟨w.heap.size, 0, none⟩ = some (.int .i64 p.k)) := fun W h => by
    rw [hA] at h
    exact ⟨by rw [← ea]; exact row_dat hp h, by rw [cell_of_row W _ _ _ _ _ h]; rfl⟩
  have ca0 := (CD.out w1 g1).1
  have BE := Lib.hid b1
  have G1 := Lib.hid g1
  have HW1 := Lib.hid hw1
  have hbd := hd.1
  have EA : Hid (∀ W, Below w.heap.size w W → Calls Try.prog 8 #[.agg A] W (EncP W p)) := fun W h => by rw [hA]; exact encodeC hp h5 dv W (hd.below h)
  have AL : Hid (∀ W : World, Calls Try.prog 7 #[] W (AliveP W)) := alive
  have n5 : decide (5000 < p.d.length) = false := decide_eq_false (by omega)
  have k5 : ((p.d.length : Nat) : Int) ≤ 5000 := by omega
  obtain ⟨Z, hZ⟩ : ∃ Z, Z = (rc (pz 0) (.slice none 0 0)).toArray := ⟨_, rfl⟩
  have z := z26
  rw [← hZ] at z
  have HZ := Lib.hid z
  have IZ : Hid ((Try.prog.info? 26).map (·.size) = some Z.size) := by show _ = _; rw [hZ]; exact i26 pz0_ok _
  have ev := (encV_yes hr).1
  have E0 := Lib.hid (encV_yes hr).2
  have hle := bytR_len hp h5 hr
  rw [ev] at hkn
  have CU : Hid (∀ v W, Sees W v ((encV p).take k) → Calls Try.prog 12 #[v] W fun e w' => ∃ q du, e = .returned (.tuple #[.agg (rc q du).toArray, .int .i64 0]) ∧ RQ q ∧ Sees w' du q.d ∧ Below W.heap.size W w') := fun v W h => by
    rw [ev] at h
    refine (decodeC v _ (by rw [List.length_take]; omega) W h).mono fun e w' hh => ?_
    obtain ⟨du, h1, h2, h3, _, h4'⟩ := hh
    have hk : dOk ((bytR p).take k) = true := cut_yes hp hbd h5 hr h4 k hkn h7 h512
    have e0 : decE ((bytR p).take k) = 0 := by unfold decE; rw [hk]; rfl
    rw [e0] at h1
    exact ⟨_, du, h1, h2, h3, h4'⟩
  have MO : Hid (∀ v W, Sees W v (encV p ++ [m]) → Calls Try.prog 12 #[v] W fun e w' => ∃ q du, e = .returned (.tuple #[.agg (rc q du).toArray, .int .i64 70]) ∧ RQ q ∧ Sees w' du q.d ∧ Below W.heap.size W w') := fun v W h => by
    rw [ev] at h
    refine (decodeC v _ (by rw [List.length_append]; have := wrL_len hp (right_kind hr); simp only [bytR, List.length_cons, List.length_nil]; omega) W h).mono fun e w' hh => ?_
    obtain ⟨du, h1, h2, h3, _, h4'⟩ := hh
    have e0 : decE (bytR p ++ [m]) = 70 := by unfold decE; rw [more_no hp hbd h5 hr m hm]; rfl
    rw [e0] at h1
    exact ⟨_, du, h1, h2, h3, h4'⟩
  rw [← ev] at hkn hle
  have hn2 : (encV p).length ≠ 0 := by omega
  have l4 := len4 hp hr h4
  rw [← ev] at l4
  have l5 : (((encV p).length : Nat) : Int) - ((p.d.length : Nat) : Int) = 7 := by omega
  have t1 : (7 : Int) < (k : Int) := by omega
  have t2 : decide ((7 : Int) < (k : Int)) = true := decide_eq_true t1
  have t3 : 0 ≤ (k : Int) - 7 := by omega
  have t4 : ((k : Int) - 7) % 512 = 0 := by omega
  have d0 : decide ((k : Int) < 0) = false := decide_eq_false (by omega)
  have d1 : decide ((encV p).length ≤ k) = false := decide_eq_false (by omega)
  have AM : Hid (∀ v W, Sees W v (encV p) → ∃ x1 c1 w1 x2 n2 c2 w2, (Builtin.append_ #[24, 24] 24 #[.slice (some ⟨W.heap.size, 0, none⟩) 0 0, v]).run Try.prog (W.alloc (.cells #[] 5)) = .ok (.slice x1 (encV p).length c1) w1 ∧
        (Builtin.append_ #[24, 24] 24 #[.slice x1 (encV p).length c1, .slice (some ⟨w1.heap.size, 0, none⟩) 1 1]).run Try.prog (w1.alloc (.cells #[.int .u8 m] 5)) = .ok (.slice x2 n2 c2) w2 ∧ Sees w2 (.slice x2 n2 c2) (encV p ++ [m]) ∧ Below W.heap.size W w2) := fun v W h => app_more h (by omega) m hm
  have KK := Lib.hid h4
  have Xd0 := Lib.hid d0
  have Xd1 := Lib.hid d1
  have Xn5 := Lib.hid n5
  have Xk5 := Lib.hid k5
  have Xl5 := Lib.hid l5
  have Xt1 := Lib.hid t1
  have Xt2 := Lib.hid t2
  have Xt3 := Lib.hid t3
  have Xt4 := Lib.hid t4
  have XC := Lib.hid ca0
  have HKN := Lib.hid (Nat.le_of_lt hkn)
  have HN2 := Lib.hid hn2
  have HLE := Lib.hid hle
  clear z hZ hw1 b1 g1 hd hA ea h5 hr hp xa63 hbd hat ev hle hkn hn2 h4 ca0 d0 d1 n5 k5 l5 t1 t2 t3 t4 l4 h7 h512
  have n5 := Xn5.out
  have k5 := Xk5.out
  have ca0 := XC.out
  have d0 := Xd0.out
  have d1 := Xd1.out
  go_enter Try.func6, Try.ntmps6
  go_wp2_with (first | rw [← HW1.out] | refine wpList_load_row rfl 26 (.tmp 3) rfl w.heap.size rfl 26 A (0, 0) _ G1.out Try.underlying26 rfl ia.out ?_)
  refine (EA.out w1 BE.out).mono ?_
  rintro e wk1 ⟨x1, c1, rfl, hs, hb⟩
  have qBE := BE.out.trans (hb.mono BE.out.size)
  have qG1 := (hb.block _ (blk_lt G1.out)).trans G1.out
  clear BE G1
  have BE := Lib.hid qBE
  have G1 := Lib.hid qG1
  clear qBE qG1
  rw [E0.out]
  have SX := Lib.hid hs
  have hse := hs.2
  clear hb hs ca0 n5 k5 XC Xn5 Xk5
  obtain ⟨bx, ox, rfl, hcap⟩ : ∃ bx ox, x1 = some ⟨bx, ox, none⟩ ∧ (encV p).length ≤ c1 := by
    rcases hse with ⟨e, e2⟩ | ⟨a, cp, e, e2, _⟩ | ⟨b', o', cp, e, _, h1, _⟩
    · rw [e2] at HN2; exact absurd rfl HN2.out
    · rw [e2] at HN2; exact absurd rfl HN2.out
    · cases e; exact ⟨b', o', rfl, h1⟩
  have hk1 : k ≤ c1 := Nat.le_trans HKN.out hcap
  have hk0 : ¬ 0 = c1 := by have := HN2.out; omega
  have hkc : ((k : Nat) : Int) ≤ (c1 : Int) := by omega
  have ST : Hid (Sees wk1 (.slice (some ⟨bx, ox, none⟩) k c1) ((encV p).take k)) := sees_take SX.out HKN.out
  have HCAP := Lib.hid hcap
  clear hse hcap
  go_wp2_with fail
  refine (CU.out _ wk1 ST.out).mono ?_
  rintro e wk2 ⟨q, du, rfl, hq, hs, hb⟩
  have qBE := BE.out.trans (hb.mono BE.out.size)
  have qG1 := (hb.block _ (blk_lt G1.out)).trans G1.out
  have qSX := SX.out.below hb
  clear BE G1 SX
  have BE := Lib.hid qBE
  have G1 := Lib.hid qG1
  have SX := Lib.hid qSX
  clear qBE qG1 qSX
  have IC := Lib.hid (i26 hq du)
  have OC := Lib.hid (rc_one (p := q) hs.one)
  generalize (rc q du).toArray = C at IC OC ⊢
  clear hb hs hq ST CU hk1 hk0 hkc
  obtain ⟨wk3, hwk3⟩ : ∃ x, x = wk2.alloc (.cells C 26) := ⟨_, rfl⟩
  have RN3 : Hid ((wk2.alloc (.cells Z 26)).setRow wk2.heap.size C = wk3) := by show _ = _; rw [hwk3]; exact alloc_setRowT wk2 Z C 26 _ rfl
  have IZ3 : Hid (Z.size = C.size) := Option.some.inj (IZ.out.symm.trans IC.out)
  have GZ3 : Hid ((wk2.alloc (.cells Z 26)).heap[wk2.heap.size]? = some (.cells Z 26 (0, 0))) := heap_alloc_new wk2 _
  have hb : Below wk2.heap.size wk2 wk3 := by rw [hwk3]; exact (Below.refl _ _).alloc (Nat.le_refl _) _
  have q0 : wk3.heap[wk2.heap.size]? = some (.cells C 26 (0, 0)) := by rw [hwk3]; exact heap_alloc_new wk2 _
  have qBE := BE.out.trans (hb.mono BE.out.size)
  have qG1 := (hb.block _ (blk_lt G1.out)).trans G1.out
  have qSX := SX.out.below hb
  clear BE G1 SX
  have BE := Lib.hid qBE
  have G1 := Lib.hid qG1
  have SX := Lib.hid qSX
  clear qBE qG1 qSX
  have GC := Lib.hid q0
  clear q0 hb hwk3
  go_upto_region 7 with (refine wpList_alloc_z rfl 26 rfl (HZ.out _) ?_; refine wpList_store_row rfl 26 (.tmp 9) (.tmp 42) rfl wk2.heap.size C rfl rfl 26 Z GZ3.out IC.out IZ3.out OC.out ?_; rw [RN3.out])
  obtain ⟨y1, e1, wy1, y2, n2, e2, wy2, r1, r2, hs, hb⟩ := AM.out _ wk3 SX.out
  have R1 := Lib.hid r1
  have R2 := Lib.hid r2
  have SM := Lib.hid hs
  clear r1 r2 hs AM
  have qBE := BE.out.trans (hb.mono BE.out.size)
  have qG1 := (hb.block _ (blk_lt G1.out)).trans G1.out
  have qSX := SX.out.below hb
  have qGC := (hb.block _ (blk_lt GC.out)).trans GC.out
  clear BE G1 SX GC
  have BE := Lib.hid qBE
  have G1 := Lib.hid qG1
  have SX := Lib.hid qSX
  have GC := Lib.hid qGC
  clear qBE qG1 qSX qGC
  clear hb SX
  go_wp2_with (at_builtin; first | refine wpList_app rfl (.tmp 45) (.tmp 46) rfl rfl rfl rfl R1.out ?_ | refine wpList_app rfl (.tmp 47) (.tmp 49) rfl rfl rfl rfl R2.out ?_)
  refine (MO.out _ wy2 SM.out).mono ?_
  rintro e wk4 ⟨q2, du2, rfl, hq, hs, hb⟩
  have qBE := BE.out.trans (hb.mono BE.out.size)
  have qG1 := (hb.block _ (blk_lt G1.out)).trans G1.out
  have qGC := (hb.block _ (blk_lt GC.out)).trans GC.out
  clear BE G1 GC
  have BE := Lib.hid qBE
  have G1 := Lib.hid qG1
  have GC := Lib.hid qGC
  clear qBE qG1 qGC
  have IC2 := Lib.hid (i26 hq du2)
  have OC2 := Lib.hid (rc_one (p := q2) hs.one)
  generalize (rc q2 du2).toArray = C2 at IC2 OC2 ⊢
  clear hb hs hq SM MO R1 R2
  obtain ⟨wk5, hwk5⟩ : ∃ x, x = wk4.alloc (.cells C2 26) := ⟨_, rfl⟩
  have RN5 : Hid ((wk4.alloc (.cells Z 26)).setRow wk4.heap.size C2 = wk5) := by show _ = _; rw [hwk5]; exact alloc_setRowT wk4 Z C2 26 _ rfl
  have IZ5 : Hid (Z.size = C2.size) := Option.some.inj (IZ.out.symm.trans IC2.out)
  have GZ5 : Hid ((wk4.alloc (.cells Z 26)).heap[wk4.heap.size]? = some (.cells Z 26 (0, 0))) := heap_alloc_new wk4 _
  have hb : Below wk4.heap.size wk4 wk5 := by rw [hwk5]; exact (Below.refl _ _).alloc (Nat.le_refl _) _
  have q0 : wk5.heap[wk4.heap.size]? = some (.cells C2 26 (0, 0)) := by rw [hwk5]; exact heap_alloc_new wk4 _
  have qBE := BE.out.trans (hb.mono BE.out.size)
  have qG1 := (hb.block _ (blk_lt G1.out)).trans G1.out
  have qGC := (hb.block _ (blk_lt GC.out)).trans GC.out
  clear BE G1 GC
  have BE := Lib.hid qBE
  have G1 := Lib.hid qG1
  have GC := Lib.hid qGC
  clear qBE qG1 qGC
  have GC2 := Lib.hid q0
  clear q0 hb hwk5
  go_upto_region 8 with (refine wpList_alloc_z rfl 26 rfl (HZ.out _) ?_; refine wpList_store_row rfl 26 (.tmp 11) (.tmp 52) rfl wk4.heap.size C2 rfl rfl 26 Z GZ5.out IC2.out IZ5.out OC2.out ?_; rw [RN5.out])
  have cc := CD.out _ G1.out
  obtain ⟨cc1, cc2⟩ := cc
  rw [KK.out] at cc2
  have l5 := Xl5.out
  have hle := HLE.out
  generalize (encV p).length = n at *
  generalize p.d.length = np at *
  have hnp : ((np : Nat) : Int) ≤ 10000 := by omega
  have hnn : ((n : Nat) : Int) ≤ 10000 := by omega
  go_wp2_with fail
  refine (AL.out wk5).mono ?_
  rintro e wk6 ⟨rfl, hb⟩
  have qBE := BE.out.trans (hb.mono BE.out.size)
  have qG1 := (hb.block _ (blk_lt G1.out)).trans G1.out
  have qGC := (hb.block _ (blk_lt GC.out)).trans GC.out
  have qGC2 := (hb.block _ (blk_lt GC2.out)).trans GC2.out
  clear BE G1 GC GC2
  have BE := Lib.hid qBE
  have G1 := Lib.hid qG1
  have GC := Lib.hid qGC
  have GC2 := Lib.hid qGC2
  clear qBE qG1 qGC qGC2
  clear cc1 cc2 l5
  clear hb
  have t1 := Xt1.out
  have t2 := Xt2.out
  have t3 := Xt3.out
  have t4 := Xt4.out
  have kk2 : ((k : Nat) : Int) ≤ 10000 := by have := HKN.out; omega
  go_wp2
  go_ret
  exact ⟨rfl, BE.out⟩
end Go.Proofs.Ytdohggpajhkkhaa
