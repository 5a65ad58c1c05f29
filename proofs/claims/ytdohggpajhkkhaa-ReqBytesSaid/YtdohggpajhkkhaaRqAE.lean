/-
  The document's Decode where the fields are read: one loop over numbers, one over keys, one over the numbers behind them. Condition: the value reads as these bytes, and they are enough.
-/
import Derived.Test.YtdohggpajhkkhaaRqAD
namespace Go.Proofs.Ytdohggpajhkkhaa
open Go.RowKit
theorem set_mid {α : Type} (A B C : List α) (m n : Nat) (v : α) (hA : A.length = n) (hm : m < B.length) : (A ++ (B ++ C)).set (n + m) v = A ++ (B.set m v ++ C) := by
  subst hA
  rw [List.set_append_right _ _ (by omega), Nat.add_sub_cancel_left, List.set_append_left _ _ hm]
theorem kb_set (b : List Int) (m : Nat) (x : Int) : (kb b).set m (.int .u8 x) = kb (b.set m x) := by
  unfold kb
  rw [List.map_set]
theorem rc_setB {p : Rq} (hp : RQ p) {a : Nat} (ha : a < 4) {m : Nat} (hm : m < 32) (x : Int) : (rc p (.slice none 0 0)).toArray.setIfInBounds (9 + 32 * a + m) (.int .u8 x) = (rc (setK p (lK a) ((keyA p a).set m x)) (.slice none 0 0)).toArray := by
  have k1 : (kb p.o).length = 32 := by rw [kb_len, hp.o.1]
  have k2 : (kb p.f).length = 32 := by rw [kb_len, hp.f.1]
  have k3 : (kb p.m).length = 32 := by rw [kb_len, hp.m.1]
  have k4 : (kb p.x).length = 32 := by rw [kb_len, hp.x.1]
  have l8 : (Value.int .i64 p.k :: c8 p).length = 9 := rfl
  rw [List.setIfInBounds_toArray]
  refine congrArg List.toArray ?_
  have h4 : a = 0 ∨ a = 1 ∨ a = 2 ∨ a = 3 := by omega
  rw [rc_c, rc_c]
  unfold c128
  rcases h4 with rfl | rfl | rfl | rfl
  · have h := set_mid (Value.int .i64 p.k :: c8 p) (kb p.o) ((kb p.f ++ (kb p.m ++ kb p.x)) ++ [.slice none 0 0]) m 9 (.int .u8 x) l8 (by omega)
    rw [kb_set] at h
    simp only [List.cons_append, List.append_assoc] at h ⊢
    exact h
  · have h := set_mid ((Value.int .i64 p.k :: c8 p) ++ kb p.o) (kb p.f) ((kb p.m ++ kb p.x) ++ [.slice none 0 0]) m 41 (.int .u8 x) (by rw [List.length_append, l8, k1]) (by omega)
    rw [kb_set] at h
    simp only [List.cons_append, List.append_assoc] at h ⊢
    exact h
  · have h := set_mid ((Value.int .i64 p.k :: c8 p) ++ (kb p.o ++ kb p.f)) (kb p.m) (kb p.x ++ [.slice none 0 0]) m 73 (.int .u8 x) (by rw [List.length_append, List.length_append, l8, k1, k2]) (by omega)
    rw [kb_set] at h
    simp only [List.cons_append, List.append_assoc] at h ⊢
    exact h
  · have h := set_mid ((Value.int .i64 p.k :: c8 p) ++ (kb p.o ++ (kb p.f ++ kb p.m))) (kb p.x) [.slice none 0 0] m 105 (.int .u8 x) (by rw [List.length_append, List.length_append, List.length_append, l8, k1, k2, k3]) (by omega)
    rw [kb_set] at h
    simp only [List.cons_append, List.append_assoc] at h ⊢
    exact h
theorem setK_self (p : Rq) {a : Nat} (ha : a < 4) : setK p (lK a) (keyA p a) = p := by
  have h4 : a = 0 ∨ a = 1 ∨ a = 2 ∨ a = 3 := by omega
  rcases h4 with rfl | rfl | rfl | rfl <;> rfl
theorem setK_key (p : Rq) {a : Nat} (ha : a < 4) (z : List Int) : keyA (setK p (lK a) z) a = z := by
  have h4 : a = 0 ∨ a = 1 ∨ a = 2 ∨ a = 3 := by omega
  rcases h4 with rfl | rfl | rfl | rfl <;> rfl
theorem setK_two (p : Rq) {a : Nat} (ha : a < 4) (y z : List Int) : setK (setK p (lK a) y) (lK a) z = setK p (lK a) z := by
  have h4 : a = 0 ∨ a = 1 ∨ a = 2 ∨ a = 3 := by omega
  rcases h4 with rfl | rfl | rfl | rfl <;> rfl
theorem setK_ok {p : Rq} (hp : RQ p) {a : Nat} (ha : a < 4) {z : List Int} (hz : k32 z) : RQ (setK p (lK a) z) := by
  obtain ⟨a1, a2, a3, a4, a5, a6, a7, a8, a9, a10, a11, a12, a13, a14⟩ := hp
  have h4 : a = 0 ∨ a = 1 ∨ a = 2 ∨ a = 3 := by omega
  rcases h4 with rfl | rfl | rfl | rfl
  · exact ⟨a1, a2, a3, a4, a5, a6, a7, a8, a9, hz, a11, a12, a13, a14⟩
  · exact ⟨a1, a2, a3, a4, a5, a6, a7, a8, a9, a10, hz, a12, a13, a14⟩
  · exact ⟨a1, a2, a3, a4, a5, a6, a7, a8, a9, a10, a11, hz, a13, a14⟩
  · exact ⟨a1, a2, a3, a4, a5, a6, a7, a8, a9, a10, a11, a12, hz, a14⟩
/-- A key whose first m bytes are new. -/
def mixK (old new : List Int) (m : Nat) : List Int := new.take m ++ old.drop m
theorem mix_ok {old new : List Int} (ho : k32 old) (hn : k32 new) (m : Nat) (hm : m ≤ 32) : k32 (mixK old new m) := by
  refine ⟨by unfold mixK; rw [List.length_append, List.length_take, List.length_drop, ho.1, hn.1]; omega, fun x hx => ?_⟩
  unfold mixK at hx
  rcases List.mem_append.1 hx with h | h
  · exact hn.2 x (List.mem_of_mem_take h)
  · exact ho.2 x (List.mem_of_mem_drop h)
theorem mix_set {old new : List Int} (ho : old.length = 32) (hn : new.length = 32) (m : Nat) (hm : m < 32) : (mixK old new m).set m (nth new m) = mixK old new (m + 1) := by
  unfold mixK nth
  rw [List.set_append_right _ _ (by rw [List.length_take]; omega), List.length_take, show m - min m new.length = 0 by omega]
  have e1 : old.drop m = old[m]'(by omega) :: old.drop (m + 1) := List.drop_eq_getElem_cons (by omega)
  have e2 : new.take (m + 1) = new.take m ++ [new[m]'(by omega)] := (List.take_append_getElem (by omega)).symm
  rw [e1, e2, List.set_cons_zero, List.getD_eq_getElem?_getD, List.getElem?_eq_getElem (by omega), List.append_assoc]
  rfl
theorem mix_all {old new : List Int} (ho : old.length = 32) (hn : new.length = 32) : mixK old new 32 = new := by
  unfold mixK
  rw [List.take_of_length_le (by omega), List.drop_of_length_le (by omega), List.append_nil]
theorem b35 (k : Int) (w : World) : (Instr.build 35 #[(0, .int .i64 k)]).run Try.prog w = .ok (.agg (rc (pz k) (.slice none 0 0)).toArray) w := by kernel_rfl
/-- The request that is being read: block r; all else is as it was at w3. -/
def DS (r : Nat) (w3 : World) (p : Rq) (W : World) : Prop := Mods (fun g => g = r) w3 W ∧ W.heap[r]? = some (.cells (rc p (.slice none 0 0)).toArray 35 (0, 0))
theorem DS.drew {r : Nat} {w3 W : World} {p : Rq} (h : DS r w3 p W) : DS r w3 p W.drew := ⟨⟨h.1.os, h.1.tape, h.1.output, h.1.size, h.1.block⟩, h.2⟩
theorem DS.cellN {r : Nat} {w3 W : World} {p : Rq} (hp : RQ p) (h : DS r w3 p W) {a : Nat} (ha : a < 8) : W.cell? ⟨r, 1 + a, none⟩ = some (.int .i64 (numA p a)) := (row35 hp h.2).2.1 a ha
theorem DS.free {r : Nat} {w3 W : World} {p : Rq} (h : DS r w3 p W) (i : Nat) : W.frozen? ⟨r, i, none⟩ = false := frozen_block h.2 i
theorem offN {a : Nat} (h : a < 8) : offL (lN a) = 1 + a := by
  have h8 : a = 0 ∨ a = 1 ∨ a = 2 ∨ a = 3 ∨ a = 4 ∨ a = 5 ∨ a = 6 ∨ a = 7 := by omega
  rcases h8 with rfl | rfl | rfl | rfl | rfl | rfl | rfl | rfl <;> rfl
theorem DS.setN {r : Nat} {w3 W : World} {p : Rq} (h : DS r w3 p W) {a : Nat} (ha : a < 8) (z : Int) : DS r w3 (setN p (lN a) z) (W.setCell ⟨r, 1 + a, none⟩ (.int .i64 z)) := by
  rw [setCellRow W r _ _ 35 _ h.2]
  have e := rc_setN (lN_ok ha).1 p (.slice none 0 0) z
  rw [offN ha] at e
  rw [e]
  exact ⟨h.1.trans (Mods.row W r _) (fun b hb => .inl hb), setRow_heap _ r _ _ _ _ h.2⟩
theorem DS.cellK {r : Nat} {w3 W : World} {p : Rq} (hp : RQ p) (h : DS r w3 p W) {a m : Nat} (ha : a < 4) (hm : m < 32) : W.cell? ⟨r, 9 + a * 32 + m, none⟩ = some (.int .u8 (nth (keyA p a) m)) := by
  rw [Nat.mul_comm a 32]
  exact (sees_key35 hp h.2 a ha).cell m (by rw [(key35 hp h.2 a ha).1.1]; exact hm)
theorem DS.setB {r : Nat} {w3 W : World} {p : Rq} (hp : RQ p) (h : DS r w3 p W) {a m : Nat} (ha : a < 4) (hm : m < 32) (x : Int) : DS r w3 (setK p (lK a) ((keyA p a).set m x)) (W.setCell ⟨r, 9 + a * 32 + m, none⟩ (.int .u8 x)) := by
  rw [Nat.mul_comm a 32, setCellRow W r _ _ 35 _ h.2, rc_setB hp ha hm x]
  exact ⟨h.1.trans (Mods.row W r _) (fun b hb => .inl hb), setRow_heap _ r _ _ _ _ h.2⟩
theorem SI.mods {r : Nat} {w3 W : World} {v : Value} {l : List Nat} {C : Array Value} (h : SI w3 v l) (h3 : w3.heap[r]? = some (.cells C 35 (0, 0))) (hm : Mods (fun g => g = r) w3 W) : SI W v l := by
  rcases h with h | ⟨g, n, h1, h2, h4⟩
  · exact .inl h
  · refine .inr ⟨g, n, h1, h2, ?_⟩
    rw [hm.block g (blk_lt h4) (fun e => by subst e; rw [h4] at h3; cases h3)]
    exact h4
theorem sees_sub {w : World} {b o n c : Nat} {xs : List Int} (h : Sees w (.slice (some ⟨b, o, none⟩) n c) xs) (k m c' : Nat) (hk : k + m ≤ xs.length) (hm : m ≠ 0) (hc : m ≤ c') (hcm : c' ≤ maxLen) : Sees w (.slice (some ⟨b, o + k, none⟩) m c') ((xs.drop k).take m) := by
  have hl : ((xs.drop k).take m).length = m := by rw [List.length_take, List.length_drop]; omega
  refine ⟨(h.1.drop k).take m, .inr (.inr ⟨b, o + k, c', by rw [hl], fun e => by rw [e] at hl; simp at hl; omega, by omega, hcm, fun i hi => ?_⟩)⟩
  rw [hl] at hi
  rw [Nat.add_assoc, h.cell (k + i) (by omega)]
  unfold nth
  rw [List.getD_eq_getElem?_getD, List.getD_eq_getElem?_getD, List.getElem?_take_of_lt hi, List.getElem?_drop]
theorem sees_rest {w : World} {b o c pos : Nat} {xs : List Int} (h : Sees w (.slice (some ⟨b, o, none⟩) xs.length c) xs) (hcl : xs.length ≤ c) (hcm : c ≤ maxLen) (hp : pos ≤ xs.length) (a : Addr) (ha : pos < xs.length → a = ⟨b, o + pos, none⟩) : Sees w (.slice (some a) (xs.length - pos) (c - pos)) (xs.drop pos) := by
  by_cases hlt : pos < xs.length
  · rw [ha hlt]
    have h2 := sees_sub h pos (xs.length - pos) (c - pos) (by omega) (by omega) (by omega) (by omega)
    rw [List.take_of_length_le (by rw [List.length_drop]; omega)] at h2
    exact h2
  · have e : xs.drop pos = [] := List.drop_of_length_le (by omega)
    have e2 : xs.length - pos = 0 := by omega
    rw [e, e2]
    exact ⟨fun _ h => by simp at h, .inr (.inl ⟨a, _, rfl, rfl, by omega⟩)⟩
set_option maxRecDepth 100000 in
set_option maxHeartbeats 4000000 in
theorem decD_y (v : Value) (xs : List Int) (w : World) (hs : Sees w v xs) (hl : xs.length ≤ 5000) (f k : Int) (ys : List Int) (hx : xs = f :: k :: ys) (hk1 : ¬ k < 1) (hk2 : ¬ 16 < k) (hf : flen k ≤ ys.length) : Calls Try.prog 13 #[v] w (DecS w xs) := by
  obtain ⟨b, o, cap, rfl, hlt⟩ := sees_pos hs (by rw [hx]; simp)
  have hk0 : 0 ≤ k ∧ k ≤ 255 := by have := hs.1 k (by rw [hx]; simp); omega
  have hln : 2 ≤ xs.length := by rw [hx]; simp
  have hn2 : ¬ ((xs.length : Nat) : Int) < 2 := by omega
  have nx : nth xs 1 = k := by rw [hx]; rfl
  have hc0 := hs.cell 1 (by omega)
  rw [nx] at hc0
  have i64k : i64 k := by unfold i64; omega
  have hyb : Byt ys := fun z hz => hs.1 z (by rw [hx]; simp [hz])
  have hyl : ys.length ≤ 5000 := by rw [hx] at hl; simp at hl; omega
  obtain ⟨Z, hZ⟩ : ∃ Z, Z = (rc (pz 0) (.slice none 0 0)).toArray := ⟨_, rfl⟩
  have hb0 := b35z
  rw [← hZ] at hb0
  have BZ := Lib.hid hb0
  have i0 := i35 (pz_ok (k := 0) (by unfold i64; omega)) (.slice none 0 0)
  rw [← hZ] at i0
  have IZ := Lib.hid i0
  have OZ : Hid (Z.all (·.oneCell') = true) := by show _ = _; rw [hZ]; exact rc_one rfl
  obtain ⟨w1, hw1⟩ : ∃ w1, w1 = w.alloc (.cells Z 35) := ⟨_, rfl⟩
  have B1 : Hid (Below w.heap.size w w1) := by show Below _ _ _; rw [hw1]; exact (Below.refl _ _).alloc (Nat.le_refl _) _
  have g1 : w1.heap[w.heap.size]? = some (.cells Z 35 (0, 0)) := by rw [hw1]; exact heap_alloc_new w _
  have G1 := Lib.hid g1
  have HW1 := Lib.hid hw1
  have z := z35
  rw [← hZ] at z
  have cc : w1.cell? ⟨b, o + 1, none⟩ = some (.int .u8 k) := (B1.out.cell hlt).trans hc0
  have hk3 : k ≤ 255 := hk0.2
  have hk4 : 0 ≤ k := hk0.1
  have SZ := Lib.hid (sizeC k)
  have hxl : xs.length = 2 + ys.length := by rw [hx]; simp; omega
  have hfc : ¬ ((xs.length : Nat) : Int) < 2 + ((flen k : Nat) : Int) := by omega
  have hf5 : ((flen k : Nat) : Int) ≤ 1000 := by have := flen_s k; have := sW_le (nA k); have := sW_le (nB k); obtain ⟨h1, h2, h3⟩ := nums_le k; omega
  obtain ⟨hcl, hcm⟩ : xs.length ≤ cap ∧ cap ≤ maxLen := by
    rcases hs with ⟨_, ⟨h, _⟩ | ⟨_, _, _, h, _⟩ | ⟨_, _, _, h, _, h4, h5, _⟩⟩
    · cases h
    · rw [h] at hln; simp at hln
    · cases h; exact ⟨h4, h5⟩
  obtain ⟨C, hC⟩ : ∃ C, C = (rc (pz k) (.slice none 0 0)).toArray := ⟨_, rfl⟩
  have hbk := b35 k
  have ick := i35 (pz_ok i64k) (.slice none 0 0)
  have ock := rc_one (p := pz k) (dv := .slice none 0 0) rfl
  rw [← hC] at hbk ick ock
  have HBK := Lib.hid hbk
  have IC := Lib.hid ick
  have OC := Lib.hid ock
  have IZC : Hid (Z.size = C.size) := Option.some.inj (IZ.out.symm.trans IC.out)
  have HZ := Lib.hid (show ∀ W : World, (zeroValue 35).run Try.prog W = .ok (.agg Z) W from z)
  have HC := Lib.hid hC
  have HXL := Lib.hid hxl
  have HX := Lib.hid hx
  have HYB := Lib.hid hyb
  have HYL := Lib.hid hyl
  have HF := Lib.hid hf
  have I64 := Lib.hid i64k
  have HS := Lib.hid hs
  have HLT := Lib.hid hlt
  have HCL := Lib.hid hcl
  have HCM := Lib.hid hcm
  have HL5 := Lib.hid hl
  have HIZ := Lib.hid hZ
  have ko : RTok (pz k, ys, false) := ⟨pz_ok i64k, hyb, by show ys.length ≤ 10000; omega⟩
  have KO := Lib.hid ko
  have NM := Lib.hid (numsC k)
  clear hbk ick ock hw1 g1 hZ hb0 i0 hC hx hyb hyl hf i64k hs hlt hcl hcm nx hc0 hk0 hxl ko hln hl
  go_enter Try.func13, Try.ntmps13
  go_upto_region 1 with (fail)
  rw [← HW1.out]
  clear z
  go_wp2_with fail
  refine (SZ.out _).mono ?_
  rintro e w2 ⟨rfl, hb⟩
  have B2 := Lib.hid (B1.out.trans (hb.mono B1.out.size))
  have G2 := Lib.hid ((hb.block _ (blk_lt G1.out)).trans G1.out)
  have hlt1 : b < w1.heap.size := Nat.lt_of_lt_of_le HLT.out B1.out.size
  have c2 : w2.cell? ⟨b, o + 1, none⟩ = some (.int .u8 k) := (hb.cell hlt1).trans cc
  obtain ⟨wc, hwc⟩ : ∃ wc, wc = w2.alloc (.cells C 35) := ⟨_, rfl⟩
  have RN : Hid ((w2.alloc (.cells Z 35)).setRow w2.heap.size C = wc) := by show _ = _; rw [hwc]; exact alloc_setRowT w2 Z C 35 _ rfl
  have GZ : Hid ((w2.alloc (.cells Z 35)).heap[w2.heap.size]? = some (.cells Z 35 (0, 0))) := heap_alloc_new w2 _
  have hbc : Below w2.heap.size w2 wc := by rw [hwc]; exact (Below.refl _ _).alloc (Nat.le_refl _) _
  have gc : wc.heap[w2.heap.size]? = some (.cells C 35 (0, 0)) := by rw [hwc]; exact heap_alloc_new w2 _
  have ck : wc.cell? ⟨w2.heap.size, 0, none⟩ = some (.int .i64 k) := by rw [cell_of_row wc _ _ _ _ _ gc, HC.out]; rfl
  have BC := Lib.hid (B2.out.trans (hbc.mono B2.out.size))
  have YC := Lib.hid ((hbc.block _ (blk_lt G2.out)).trans G2.out)
  have GC := Lib.hid gc
  have LR : Hid (w.heap.size < w2.heap.size) := blk_lt G2.out
  clear hb cc hlt1 hwc hbc gc B1 G1 B2 G2 SZ
  go_upto_region 3 with (fail)
  go_upto_region 4 with (first | (refine wpList_build_run (u := .int .i64 k) rfl 35 0 (.tmp 45) rfl rfl (HBK.out w2) ?_; refine wpList_alloc_z rfl 35 rfl (HZ.out w2) ?_; refine wpList_store_row rfl 35 (.tmp 4) (.tmp 46) rfl w2.heap.size C rfl rfl 35 Z GZ.out IC.out IZC.out OC.out ?_; rw [RN.out]))
  clear c2
  go_wp2_with fail
  refine (NM.out _).mono ?_
  rintro e w3 ⟨va, vk, vb, rfl, sa, sk, sb, hb⟩
  obtain ⟨xa, ca, rfl⟩ := sa.form
  obtain ⟨xk, kc, rfl⟩ := sk.form
  obtain ⟨xb, cb, rfl⟩ := sb.form
  have B3 := Lib.hid (BC.out.trans (hb.mono BC.out.size))
  have G3 := Lib.hid ((hb.block _ (blk_lt GC.out)).trans GC.out)
  have Y3 := Lib.hid ((hb.block _ (blk_lt YC.out)).trans YC.out)
  have SA := Lib.hid sa
  have SK := Lib.hid sk
  have SB := Lib.hid sb
  have S3 := Lib.hid (HS.out.below B3.out)
  clear ck hb sa sk sb GC BC YC NM HZ
  go_upto_region 7 with (fail)
  obtain ⟨la, lk, lb⟩ := nums_le k
  obtain ⟨sa8, sk4, sb8⟩ := nums_small (k := k)
  have LA := Lib.hid la
  have LK := Lib.hid lk
  have LB := Lib.hid lb
  have SA8 := Lib.hid sa8
  have SK4 := Lib.hid sk4
  have SB8 := Lib.hid sb8
  have SAY : Hid (sW (nA k) + 32 * (nK k).length + sW (nB k) ≤ ys.length) := by
    have := HF.out
    rw [flen_s] at this
    exact this
  have D3 : Hid (DS w2.heap.size w3 (PA (pz k) ys ((nA k).take 0)) w3) := ⟨Mods.refl _ _, by
    show _ = some (Obj.cells (rc (pz k) (.slice none 0 0)).toArray 35 (0, 0))
    rw [← HC.out]
    exact G3.out⟩
  clear la lk lb sa8 sk4 sb8 hk1 hk2 hk3 hk4 hn2 hfc hf5
  go_loopw [8, 9] (fun pos i wr => ∃ j : Nat, j ≤ (nA k).length ∧ i = .int .i64 j ∧ pos = .int .i64 ((2 + sW ((nA k).take j) : Nat) : Int) ∧ DS w2.heap.size w3 (PA (pz k) ys ((nA k).take j)) wr) (fun _ i _ => (nA k).length - (intOf i).toNat)
  case atStart => exact ⟨0, Nat.zero_le _, rfl, by simp [sW], D3.out⟩
  case round =>
    obtain ⟨j, hj, rfl, rfl, hd⟩ := hrel
    by_cases hlt : j < (nA k).length
    · have D := Lib.hid hd
      clear hd
      obtain ⟨a, ha⟩ : ∃ a, (nA k)[j]? = some a := ⟨_, List.getElem?_eq_getElem hlt⟩
      have ha8 : a < 8 := SA8.out a (List.mem_of_getElem? ha)
      obtain ⟨ga, e1, _⟩ := SA.out.at ha
      subst e1
      have CA : Hid (∀ W, Mods (fun g => g = w2.heap.size) w3 W → W.cell? ⟨ga, j, none⟩ = some (.int .i64 a)) := fun W h => by
        obtain ⟨g', e2, h2⟩ := (SA.out.mods G3.out h).at ha
        cases e2
        exact h2
      have e := sW_succ _ _ _ ha
      have e2 := sW_take (nA k) (j + 1)
      have hbd := SAY.out
      have hxl := HXL.out
      have hcl := HCL.out
      have hcm := HCM.out
      have hw := wN_cases a
      have hw0 : wN a ≠ 0 := by omega
      obtain ⟨q, hq⟩ : ∃ q, q = PA (pz k) ys ((nA k).take j) := ⟨_, rfl⟩
      obtain ⟨pos, hpos⟩ : ∃ pos, pos = 2 + sW ((nA k).take j) := ⟨_, rfl⟩
      have hpx : pos + wN a ≤ xs.length := by omega
      obtain ⟨z, hz⟩ : ∃ z, z = numI ((xs.drop pos).take (wN a)) := ⟨_, rfl⟩
      have PO : Hid (RQ q) := by show RQ q; rw [hq]; exact PA_ok KO.out _
      have ES : Hid (PA (pz k) ys ((nA k).take (j + 1)) = setN q (lN a) z) := by
        show _ = _
        have h := PA_succ (p := (pz k)) (ys := ys) (l := nA k) SA8.out (by omega) j a ha
        rw [h, hq, hz, HX.out, hpos]
        rw [show 2 + sW ((nA k).take j) = sW ((nA k).take j) + 2 by omega]; rfl
      have zb : 0 ≤ z ∧ z ≤ 65535 := by
        have hl : ((xs.drop pos).take (wN a)).length = wN a := by rw [List.length_take, List.length_drop]; omega
        have h := numI_bd (wN a) _ hl ((S3.out.1.drop pos).take (wN a))
        rw [← hz] at h
        rcases hw with h2 | h2 <;> rw [h2] at h <;> omega
      have NB : Hid (∀ (W : World) (c' : Nat), Mods (fun g => g = w2.heap.size) w3 W → wN a ≤ c' → c' ≤ maxLen → Calls Try.prog 30 #[.slice (some ⟨b, o + pos, none⟩) (wN a) c'] W fun e w' => e = .returned (.int .u64 z) ∧ W = w') := fun W c' hm h1 h2 => by
        have hs := sees_sub (sees_mods S3.out hm (fun k hk => by simp [Value.ownBlock] at hk; have := HLT.out; have := LR.out; omega)) pos (wN a) c' hpx hw0 h1 h2
        rw [hz]
        exact octetPuts.number _ _ (by rw [List.length_take]; omega) W hs
      have WRZ : Hid (IntKind.i64.wrap z = z) := by
        show _ = _
        rw [IntKind.wrap_i64]
        omega
      have WC := Lib.hid (widthN a ha8)
      have E := Lib.hid e
      have HP := Lib.hid hpos
      have HA8 := Lib.hid ha8
      have HJ : Hid (j + 1 ≤ (nA k).length) := hlt
      have hc1 : pos + wN a ≤ cap := by omega
      have hc2 : wN a ≤ cap - pos := by omega
      have hc3 : cap - pos ≤ maxLen := by omega
      have hci : ((pos : Nat) : Int) + ((wN a : Nat) : Int) ≤ ((cap : Nat) : Int) := by omega
      obtain ⟨pe, hpe⟩ : ∃ pe, pe = pos + wN a := ⟨_, rfl⟩
      have hp5 : ((pos : Nat) : Int) ≤ 5000 := by have := HL5.out; omega
      have WR1 : Hid (IntKind.i64.wrap (((pos : Nat) : Int) + ((wN a : Nat) : Int)) = ((pe : Nat) : Int)) := by
        show _ = _
        rw [IntKind.wrap_i64]
        omega
      have WR2 : Hid ((0 : Int) ≤ ((pe : Nat) : Int) ∧ ((pe : Nat) : Int) ≤ ((cap : Nat) : Int) ∧ pos ≤ pe ∧ pe - pos = wN a ∧ ¬ cap = pos) := ⟨by omega, by omega, by omega, by omega, by omega⟩
      clear hpe
      have hlc : ((j : Nat) : Int) < (((nA k).length : Nat) : Int) := by omega
      have hj8 : ((j : Nat) : Int) ≤ 100 := by have := LA.out; omega
      have hwi : ((wN a : Nat) : Int) ≤ 2 := by omega
      have hw1 : (1 : Int) ≤ ((wN a : Nat) : Int) := by omega
      have z0 := zb.1
      have z1 := zb.2
      have ha8c : ((a : Nat) : Int) < 8 := by omega
      rw [← hq] at D
      rw [← hpos]
      clear hz zb hw hw0 hbd hxl hcl hpx e e2 ha hq hpos
      go_wp2_with fail
      refine wp_region_held_drew (S := fun W => Mods (fun g => g = w2.heap.size) w3 W) (by kernel_rfl) (D.out.drew.1) (fun hS => ?_)
      have qD := D.out.drew
      clear D
      generalize wr.drew = Wrs at hS qD ⊢
      have D := Lib.hid qD
      clear qD
      refine' wpAnyH_take (i := 0) ?h1x0r ?hsx0r ?hfx0r ?hrx0r ?hQx0r (Or.inl ⟨?hwx0r, ?hyx0r⟩) hS ?restx0r
      case h1x0r => (simp only [List.getElem?_toArray, List.getElem?_cons_zero]; rfl)
      case hsx0r => kernel_rfl
      case hfx0r => kernel_rfl
      case hrx0r => kernel_rfl
      case hQx0r => exact fun _ _ _ h => h
      case hwx0r => rfl
      case hyx0r =>
        intro W hW
        go_simp
        try with_reducible rfl
      simp only [Act.put, List.setIfInBounds_toArray, List.set_cons_succ, List.set_cons_zero]
      refine' wpAnyH_take (i := 1) ?h1x1r ?hsx1r ?hfx1r ?hrx1r ?hQx1r (Or.inl ⟨?hwx1r, ?hyx1r⟩) hS ?restx1r
      case h1x1r => (simp only [List.getElem?_toArray, List.getElem?_cons_succ, List.getElem?_cons_zero]; rfl)
      case hsx1r => kernel_rfl
      case hfx1r => kernel_rfl
      case hrx1r => kernel_rfl
      case hQx1r => exact fun _ _ _ h => h
      case hwx1r => rfl
      case hyx1r =>
        intro W hW
        go_simp
        try with_reducible rfl
      simp only [Act.put, List.setIfInBounds_toArray, List.set_cons_succ, List.set_cons_zero]
      refine' wpAnyH_take (i := 4) ?h1x4r ?hsx4r ?hfx4r ?hrx4r ?hQx4r (Or.inl ⟨?hwx4r, ?hyx4r⟩) hS ?restx4r
      case h1x4r => (simp only [List.getElem?_toArray, List.getElem?_cons_succ, List.getElem?_cons_zero]; rfl)
      case hsx4r => kernel_rfl
      case hfx4r => kernel_rfl
      case hrx4r => kernel_rfl
      case hQx4r => exact fun _ _ _ h => h
      case hwx4r => rfl
      case hyx4r =>
        intro W hW
        go_simp
        try with_reducible rfl
      simp only [Act.put, List.setIfInBounds_toArray, List.set_cons_succ, List.set_cons_zero]
      refine' wpAnyH_take (i := 5) ?h1x5r ?hsx5r ?hfx5r ?hrx5r ?hQx5r (Or.inl ⟨?hwx5r, ?hyx5r⟩) hS ?restx5r
      case h1x5r => (simp only [List.getElem?_toArray, List.getElem?_cons_succ, List.getElem?_cons_zero]; rfl)
      case hsx5r => kernel_rfl
      case hfx5r => kernel_rfl
      case hrx5r => kernel_rfl
      case hQx5r => exact fun _ _ _ h => h
      case hwx5r => rfl
      case hyx5r =>
        intro W hW
        go_simp
        try with_reducible rfl
      simp only [Act.put, List.setIfInBounds_toArray, List.set_cons_succ, List.set_cons_zero]
      refine' wpAnyH_take (i := 6) ?h1x6r ?hsx6r ?hfx6r ?hrx6r ?hQx6r (Or.inl ⟨?hwx6r, ?hyx6r⟩) hS ?restx6r
      case h1x6r => (simp only [List.getElem?_toArray, List.getElem?_cons_succ, List.getElem?_cons_zero]; rfl)
      case hsx6r => kernel_rfl
      case hfx6r => kernel_rfl
      case hrx6r => kernel_rfl
      case hQx6r => exact fun _ _ _ h => h
      case hwx6r => rfl
      case hyx6r =>
        intro W hW
        go_simp
        try with_reducible rfl
      simp only [Act.put, List.setIfInBounds_toArray, List.set_cons_succ, List.set_cons_zero]
      refine' wpAnyH_take (i := 7) ?h1x7r ?hsx7r ?hfx7r ?hrx7r ?hQx7r (Or.inl ⟨?hwx7r, ?hyx7r⟩) hS ?restx7r
      case h1x7r => (simp only [List.getElem?_toArray, List.getElem?_cons_succ, List.getElem?_cons_zero]; rfl)
      case hsx7r => kernel_rfl
      case hfx7r => kernel_rfl
      case hrx7r => kernel_rfl
      case hQx7r => exact fun _ _ _ h => h
      case hwx7r => rfl
      case hyx7r =>
        intro W hW
        go_simp
        try with_reducible rfl
      simp only [Act.put, List.setIfInBounds_toArray, List.set_cons_succ, List.set_cons_zero]
      refine' wpAnyH_take (i := 8) ?h1x8r ?hsx8r ?hfx8r ?hrx8r ?hQx8r (Or.inl ⟨?hwx8r, ?hyx8r⟩) hS ?restx8r
      case h1x8r => (simp only [List.getElem?_toArray, List.getElem?_cons_succ, List.getElem?_cons_zero]; rfl)
      case hsx8r => kernel_rfl
      case hfx8r => kernel_rfl
      case hrx8r => kernel_rfl
      case hQx8r => exact fun _ _ _ h => h
      case hwx8r => rfl
      case hyx8r =>
        intro W hW
        go_simp
        try with_reducible rfl
      simp only [Act.put, List.setIfInBounds_toArray, List.set_cons_succ, List.set_cons_zero]
      refine' wpAnyH_take (i := 16) ?h1x16r ?hsx16r ?hfx16r ?hrx16r ?hQx16r (Or.inl ⟨?hwx16r, ?hyx16r⟩) hS ?restx16r
      case h1x16r => (simp only [List.getElem?_toArray, List.getElem?_cons_succ, List.getElem?_cons_zero]; rfl)
      case hsx16r => kernel_rfl
      case hfx16r => kernel_rfl
      case hrx16r => kernel_rfl
      case hQx16r => exact fun _ _ _ h => h
      case hwx16r => rfl
      case hyx16r =>
        intro W hW
        go_simp
        try with_reducible rfl
      simp only [Act.put, List.setIfInBounds_toArray, List.set_cons_succ, List.set_cons_zero]
      refine' wpAnyH_take (i := 2) ?h1x2r ?hsx2r ?hfx2r ?hrx2r ?hQx2r (Or.inl ⟨?hwx2r, ?hyx2r⟩) hS ?restx2r
      case h1x2r => (simp only [List.getElem?_toArray, List.getElem?_cons_succ, List.getElem?_cons_zero]; rfl)
      case hsx2r => kernel_rfl
      case hfx2r => kernel_rfl
      case hrx2r => kernel_rfl
      case hQx2r => exact fun _ _ _ h => h
      case hwx2r => rfl
      case hyx2r =>
        intro W hW
        go_simp
        try with_reducible rfl
      simp only [Act.put, List.setIfInBounds_toArray, List.set_cons_succ, List.set_cons_zero]
      refine' wpAnyH_take (i := 9) ?h1x9r ?hsx9r ?hfx9r ?hrx9r ?hQx9r (Or.inl ⟨?hwx9r, ?hyx9r⟩) hS ?restx9r
      case h1x9r => (simp only [List.getElem?_toArray, List.getElem?_cons_succ, List.getElem?_cons_zero]; rfl)
      case hsx9r => kernel_rfl
      case hfx9r => kernel_rfl
      case hrx9r => kernel_rfl
      case hQx9r => exact fun _ _ _ h => h
      case hwx9r => rfl
      case hyx9r =>
        intro W hW
        go_simp
        try with_reducible rfl
      simp only [Act.put, List.setIfInBounds_toArray, List.set_cons_succ, List.set_cons_zero]
      refine' wpAnyH_take (i := 3) ?h1x3r ?hsx3r ?hfx3r ?hrx3r ?hQx3r (Or.inl ⟨?hwx3r, ?hyx3r⟩) hS ?restx3r
      case h1x3r => (simp only [List.getElem?_toArray, List.getElem?_cons_succ, List.getElem?_cons_zero]; rfl)
      case hsx3r => kernel_rfl
      case hfx3r => kernel_rfl
      case hrx3r => kernel_rfl
      case hQx3r => exact fun _ _ _ h => h
      case hwx3r => rfl
      case hyx3r =>
        intro W hW
        have dd := CA.out W hW
        go_simp
        try with_reducible rfl
      simp only [Act.put, List.setIfInBounds_toArray, List.set_cons_succ, List.set_cons_zero]
      refine' wpAnyH_take (i := 10) ?h1x10r ?hsx10r ?hfx10r ?hrx10r ?hQx10r (Or.inl ⟨?hwx10r, ?hyx10r⟩) hS ?restx10r
      case h1x10r => (simp only [List.getElem?_toArray, List.getElem?_cons_succ, List.getElem?_cons_zero]; rfl)
      case hsx10r => kernel_rfl
      case hfx10r => kernel_rfl
      case hrx10r => kernel_rfl
      case hQx10r => exact fun _ _ _ h => h
      case hwx10r => rfl
      case hyx10r =>
        intro W hW
        have dd := CA.out W hW
        go_simp
        try with_reducible rfl
      simp only [Act.put, List.setIfInBounds_toArray, List.set_cons_succ, List.set_cons_zero]
      refine wpAnyH_ready (rs := [11]) (by kernel_rfl) (by simp) ?_
      refine' (AllReadyH.cons ?hoc11r (fun K hK => ?stc11r) AllReadyH.nil)
      case hoc11r => (simp only [List.getElem?_toArray, List.getElem?_cons_succ, List.getElem?_cons_zero]; rfl)
      go_simp
      refine (WC.out Wrs).mono ?_
      rintro e W2 ⟨rfl, rfl⟩
      go_wp2_with fail
      refine hK.out _ _ hS (fun hHeld => ?_)
      clear hK K
      try simp only [Act.put, List.setIfInBounds_toArray, List.set_cons_succ, List.set_cons_zero]
      clear hS
      have hS := hHeld
      clear hHeld
      refine' wpAnyH_take (i := 12) ?h1x12rx11 ?hsx12rx11 ?hfx12rx11 ?hrx12rx11 ?hQx12rx11 (Or.inl ⟨?hwx12rx11, ?hyx12rx11⟩) hS ?restx12rx11
      case h1x12rx11 => (simp only [List.getElem?_toArray, List.getElem?_cons_succ, List.getElem?_cons_zero]; rfl)
      case hsx12rx11 => kernel_rfl
      case hfx12rx11 => kernel_rfl
      case hrx12rx11 => kernel_rfl
      case hQx12rx11 => exact fun _ _ _ h => h
      case hwx12rx11 => rfl
      case hyx12rx11 =>
        intro W hW
        have dd := WR1.out
        go_simp
        try with_reducible rfl
      simp only [Act.put, List.setIfInBounds_toArray, List.set_cons_succ, List.set_cons_zero]
      refine' wpAnyH_take (i := 13) ?h1x13rx11 ?hsx13rx11 ?hfx13rx11 ?hrx13rx11 ?hQx13rx11 (Or.inl ⟨?hwx13rx11, ?hyx13rx11⟩) hS ?restx13rx11
      case h1x13rx11 => (simp only [List.getElem?_toArray, List.getElem?_cons_succ, List.getElem?_cons_zero]; rfl)
      case hsx13rx11 => kernel_rfl
      case hfx13rx11 => kernel_rfl
      case hrx13rx11 => kernel_rfl
      case hQx13rx11 => exact fun _ _ _ h => h
      case hwx13rx11 => rfl
      case hyx13rx11 =>
        intro W hW
        obtain ⟨d1, d2, d3, d4, d5⟩ := WR2.out
        go_simp
        try with_reducible rfl
      simp only [Act.put, List.setIfInBounds_toArray, List.set_cons_succ, List.set_cons_zero]
      refine wpAnyH_ready (rs := [14]) (by kernel_rfl) (by simp) ?_
      refine' (AllReadyH.cons ?hoc14rx11 (fun K hK => ?stc14rx11) AllReadyH.nil)
      case hoc14rx11 => (simp only [List.getElem?_toArray, List.getElem?_cons_succ, List.getElem?_cons_zero]; rfl)
      go_simp
      refine (NB.out Wrs (cap - pos) hS (by omega) (by omega)).mono ?_
      rintro e W2 ⟨rfl, rfl⟩
      go_wp2_with fail
      refine hK.out _ _ hS (fun hHeld => ?_)
      clear hK K
      try simp only [Act.put, List.setIfInBounds_toArray, List.set_cons_succ, List.set_cons_zero]
      clear hS
      have hS := hHeld
      clear hHeld
      refine' wpAnyH_take (i := 15) ?h1x15rx11x14 ?hsx15rx11x14 ?hfx15rx11x14 ?hrx15rx11x14 ?hQx15rx11x14 (Or.inl ⟨?hwx15rx11x14, ?hyx15rx11x14⟩) hS ?restx15rx11x14
      case h1x15rx11x14 => (simp only [List.getElem?_toArray, List.getElem?_cons_succ, List.getElem?_cons_zero]; rfl)
      case hsx15rx11x14 => kernel_rfl
      case hfx15rx11x14 => kernel_rfl
      case hrx15rx11x14 => kernel_rfl
      case hQx15rx11x14 => exact fun _ _ _ h => h
      case hwx15rx11x14 => rfl
      case hyx15rx11x14 =>
        intro W hW
        have dd := WRZ.out
        go_simp
        try with_reducible rfl
      simp only [Act.put, List.setIfInBounds_toArray, List.set_cons_succ, List.set_cons_zero]
      refine' wpAnyH_take (i := 17) ?h1x17rx11x14 ?hsx17rx11x14 ?hfx17rx11x14 ?hrx17rx11x14 ?hQx17rx11x14 (Or.inl ⟨?hwx17rx11x14, ?hyx17rx11x14⟩) hS ?restx17rx11x14
      case h1x17rx11x14 => (simp only [List.getElem?_toArray, List.getElem?_cons_succ, List.getElem?_cons_zero]; rfl)
      case hsx17rx11x14 => kernel_rfl
      case hfx17rx11x14 => kernel_rfl
      case hrx17rx11x14 => kernel_rfl
      case hQx17rx11x14 => exact fun _ _ _ h => h
      case hwx17rx11x14 => rfl
      case hyx17rx11x14 =>
        intro W hW
        go_simp
        try with_reducible rfl
      simp only [Act.put, List.setIfInBounds_toArray, List.set_cons_succ, List.set_cons_zero]
      refine wpAnyH_ready (rs := [18]) (by kernel_rfl) (by simp) ?_
      refine' (AllReadyH.cons ?hoc18rx11x14 (fun K hK => ?stc18rx11x14) AllReadyH.nil)
      case hoc18rx11x14 => (simp only [List.getElem?_toArray, List.getElem?_cons_succ, List.getElem?_cons_zero]; rfl)
      have cc := DS.cellN PO.out D.out HA8.out
      have ff := D.out.free (1 + a)
      go_simp
      refine hK.out _ _ ((D.out.setN HA8.out z).1) (fun hHeld => ?_)
      clear hK K
      try simp only [Act.put, List.setIfInBounds_toArray, List.set_cons_succ, List.set_cons_zero]
      clear hS
      have hS := hHeld
      clear hHeld
      refine wpAnyH_done (by kernel_rfl) ?_ _
      have dn := D.out.setN HA8.out z
      have ca2 := CA.out _ dn.1
      clear D hS
      generalize World.setCell Wrs ⟨w2.heap.size, 1 + a, none⟩ (.int .i64 z) = W9 at dn ca2 ⊢
      have DN := Lib.hid dn
      clear dn
      go_wp2_with fail
      refine (WC.out _).mono ?_
      rintro e W2 ⟨rfl, rfl⟩
      go_wp2_with fail
      go_roundw
      case rel =>
        refine ⟨j + 1, HJ.out, by go_num, ?_, by rw [ES.out]; exact DN.out⟩
        rw [E.out]
        have := HP.out
        congr 1
        omega
      case measure => simp [intOf]; have := HJ.out; omega
    · have hje : j = (nA k).length := by omega
      subst hje
      rw [List.take_of_length_le (Nat.le_refl _)] at hd ⊢
      have D := Lib.hid hd
      clear hd hlt hj
      have KO1 : Hid (RTok ((PA (pz k) ys (nA k)), (ys.drop (sW (nA k))), false)) := by
        have h := runR_ok ((nA k).map lN) KO.out
        rw [run_n (nA k) SA8.out (pz k) ys (by have := SAY.out; omega)] at h
        exact h
      have DK0 : Hid (DS w2.heap.size w3 (PK (PA (pz k) ys (nA k)) (ys.drop (sW (nA k))) ((nK k).take 0)) wr) := D.out
      clear D
      obtain ⟨wA, hA⟩ : ∃ x, x = wr := ⟨_, rfl⟩
      rw [← hA] at DK0 ⊢
      clear hA
      go_upto_region 12 with (fail)
      go_loopw [8, 10] (fun pos i wr => ∃ j : Nat, j ≤ (nK k).length ∧ i = .int .i64 j ∧ pos = .int .i64 ((2 + sW (nA k) + 32 * j : Nat) : Int) ∧ DS w2.heap.size w3 (PK (PA (pz k) ys (nA k)) (ys.drop (sW (nA k))) ((nK k).take j)) wr) (fun _ i _ => (nK k).length - (intOf i).toNat)
      case atStart => exact ⟨0, Nat.zero_le _, rfl, by simp, DK0.out⟩
      case round =>
        obtain ⟨j, hj, rfl, rfl, hd⟩ := hrel
        by_cases hlt : j < (nK k).length
        · obtain ⟨a, ha⟩ : ∃ a, (nK k)[j]? = some a := ⟨_, List.getElem?_eq_getElem hlt⟩
          have ha4 : a < 4 := SK4.out a (List.mem_of_getElem? ha)
          obtain ⟨ga, e1, _⟩ := SK.out.at ha
          subst e1
          have CA : Hid (∀ W, Mods (fun g => g = w2.heap.size) w3 W → W.cell? ⟨ga, j, none⟩ = some (.int .i64 a)) := fun W h => by
            obtain ⟨g', e2, h2⟩ := (SK.out.mods G3.out h).at ha
            cases e2
            exact h2
          have hbd := SAY.out
          have hxl := HXL.out
          obtain ⟨pos, hpos⟩ : ∃ pos, pos = 2 + sW (nA k) + 32 * j := ⟨_, rfl⟩
          have hpx : pos + 32 ≤ xs.length := by omega
          obtain ⟨q, hq⟩ : ∃ q, q = PK (PA (pz k) ys (nA k)) (ys.drop (sW (nA k))) ((nK k).take j) := ⟨_, rfl⟩
          obtain ⟨nw, hnw⟩ : ∃ nw, nw = ((ys.drop (sW (nA k))).drop (32 * j)).take 32 := ⟨_, rfl⟩
          have qo : RQ q := by rw [hq]; exact PK_ok KO1.out _
          have hnl : nw.length = 32 := by rw [hnw, List.length_take, List.length_drop, List.length_drop]; omega
          have nk : k32 nw := ⟨hnl, fun z hz => HYB.out z (by rw [hnw] at hz; exact List.mem_of_mem_drop (List.mem_of_mem_drop (List.mem_of_mem_take hz)))⟩
          have ES : Hid (PK (PA (pz k) ys (nA k)) (ys.drop (sW (nA k))) ((nK k).take (j + 1)) = setK q (lK a) nw) := by
            show _ = _
            rw [PK_succ SK4.out KO1.out (by rw [List.length_drop]; omega) j a ha, hq, hnw]
          have CXX : Hid (∀ m, m < 32 → ∀ W, Mods (fun g => g = w2.heap.size) w3 W → W.cell? ⟨b, o + (pos + m), none⟩ = some (.int .u8 (nth nw m))) := fun m hm W h => by
            have hs := sees_mods S3.out h (fun k hk => by simp [Value.ownBlock] at hk; have := HLT.out; have := LR.out; omega)
            rw [hs.cell (pos + m) (by omega), hnw, HX.out, hpos]
            unfold nth
            rw [List.getD_eq_getElem?_getD, List.getD_eq_getElem?_getD, List.getElem?_take_of_lt hm, List.getElem?_drop, List.getElem?_drop, show 2 + sW (nA k) + 32 * j + m = (sW (nA k) + (32 * j + m)) + 2 by omega]
            rfl
          have kq : k32 (keyA q a) := (key35 (W := w3.alloc (.cells (rc q (.slice none 0 0)).toArray 35)) qo (heap_alloc_new w3 _) a ha4).1
          have D0 : Hid (DS w2.heap.size w3 (setK q (lK a) (mixK (keyA q a) nw 0)) wr) := by
            show DS _ _ _ _
            rw [show mixK (keyA q a) nw 0 = keyA q a by simp [mixK], setK_self q ha4, hq]
            exact hd
          have QO := Lib.hid qo
          have NK := Lib.hid nk
          have KQ := Lib.hid kq
          have HP := Lib.hid hpos
          have HA4 := Lib.hid ha4
          have HJ : Hid (j + 1 ≤ (nK k).length) := hlt
          have HPX := Lib.hid hpx
          have hlc : ((j : Nat) : Int) < (((nK k).length : Nat) : Int) := by omega
          have hj8 : ((j : Nat) : Int) ≤ 100 := by have := LK.out; omega
          have hp5 : ((pos : Nat) : Int) ≤ 5000 := by have := HL5.out; omega
          have ha4c : ((a : Nat) : Int) < 4 := by omega
          rw [← hpos]
          clear hd hq hnw qo nk kq hpos hpx hbd hxl ha
          obtain ⟨wB, hB⟩ : ∃ x, x = wr := ⟨_, rfl⟩
          rw [← hB] at D0 ⊢
          clear hB
          go_upto_region 15 with (fail)
          go_loopw [11] (fun i wr => ∃ m : Nat, m ≤ 32 ∧ i = .int .i64 m ∧ DS w2.heap.size w3 (setK q (lK a) (mixK (keyA q a) nw m)) wr) (fun i _ => 32 - (intOf i).toNat)
          case atStart => exact ⟨0, by omega, rfl, D0.out⟩
          case round =>
            obtain ⟨m, hm, rfl, hd⟩ := hrel
            by_cases hlm : m < 32
            · have D := Lib.hid hd
              have PO := Lib.hid (setK_ok QO.out HA4.out (mix_ok KQ.out NK.out m hm))
              obtain ⟨pm, hpm⟩ : ∃ pm, pm = pos + m := ⟨_, rfl⟩
              have CX : Hid (∀ W, Mods (fun g => g = w2.heap.size) w3 W → W.cell? ⟨b, o + pm, none⟩ = some (.int .u8 (nth nw m))) := fun W h => by rw [hpm]; exact CXX.out m hlm W h
              obtain ⟨x, hx⟩ : ∃ x, x = nth nw m := ⟨_, rfl⟩
              rw [← hx] at CX
              have NXT : Hid (setK (setK q (lK a) (mixK (keyA q a) nw m)) (lK a) ((keyA (setK q (lK a) (mixK (keyA q a) nw m)) a).set m x) = setK q (lK a) (mixK (keyA q a) nw (m + 1))) := by
                show _ = _
                rw [setK_two q HA4.out, setK_key q HA4.out, hx, mix_set KQ.out.1 NK.out.1 m hlm]
              have HM := Lib.hid hlm
              have WR1 : Hid (IntKind.i64.wrap (((pos : Nat) : Int) + ((m : Nat) : Int)) = ((pm : Nat) : Int)) := by
                show _ = _
                rw [IntKind.wrap_i64]
                omega
              have WR2 : Hid (((pm : Nat) : Int) < ((xs.length : Nat) : Int) ∧ ¬ ((pm : Nat) : Int) < 0) := ⟨by have := HPX.out; omega, by omega⟩
              generalize setK q (lK a) (mixK (keyA q a) nw m) = qm at D PO NXT ⊢
              have hm32 : ((m : Nat) : Int) < 32 := by omega
              clear hd hpm hx hm
              go_wp2_with fail
              refine wp_region_held_drew (S := fun W => Mods (fun g => g = w2.heap.size) w3 W) (by kernel_rfl) (D.out.drew.1) (fun hS => ?_)
              have qD := D.out.drew
              clear D
              generalize wr.drew = Wks at hS qD ⊢
              have D := Lib.hid qD
              clear qD
              refine' wpAnyH_take (i := 0) ?h1x0k ?hsx0k ?hfx0k ?hrx0k ?hQx0k (Or.inl ⟨?hwx0k, ?hyx0k⟩) hS ?restx0k
              case h1x0k => (simp only [List.getElem?_toArray, List.getElem?_cons_zero]; rfl)
              case hsx0k => kernel_rfl
              case hfx0k => kernel_rfl
              case hrx0k => kernel_rfl
              case hQx0k => exact fun _ _ _ h => h
              case hwx0k => rfl
              case hyx0k =>
                intro W hW
                go_simp
                try with_reducible rfl
              simp only [Act.put, List.setIfInBounds_toArray, List.set_cons_succ, List.set_cons_zero]
              refine' wpAnyH_take (i := 1) ?h1x1k ?hsx1k ?hfx1k ?hrx1k ?hQx1k (Or.inl ⟨?hwx1k, ?hyx1k⟩) hS ?restx1k
              case h1x1k => (simp only [List.getElem?_toArray, List.getElem?_cons_succ, List.getElem?_cons_zero]; rfl)
              case hsx1k => kernel_rfl
              case hfx1k => kernel_rfl
              case hrx1k => kernel_rfl
              case hQx1k => exact fun _ _ _ h => h
              case hwx1k => rfl
              case hyx1k =>
                intro W hW
                go_simp
                try with_reducible rfl
              simp only [Act.put, List.setIfInBounds_toArray, List.set_cons_succ, List.set_cons_zero]
              refine' wpAnyH_take (i := 2) ?h1x2k ?hsx2k ?hfx2k ?hrx2k ?hQx2k (Or.inl ⟨?hwx2k, ?hyx2k⟩) hS ?restx2k
              case h1x2k => (simp only [List.getElem?_toArray, List.getElem?_cons_succ, List.getElem?_cons_zero]; rfl)
              case hsx2k => kernel_rfl
              case hfx2k => kernel_rfl
              case hrx2k => kernel_rfl
              case hQx2k => exact fun _ _ _ h => h
              case hwx2k => rfl
              case hyx2k =>
                intro W hW
                go_simp
                try with_reducible rfl
              simp only [Act.put, List.setIfInBounds_toArray, List.set_cons_succ, List.set_cons_zero]
              refine' wpAnyH_take (i := 3) ?h1x3k ?hsx3k ?hfx3k ?hrx3k ?hQx3k (Or.inl ⟨?hwx3k, ?hyx3k⟩) hS ?restx3k
              case h1x3k => (simp only [List.getElem?_toArray, List.getElem?_cons_succ, List.getElem?_cons_zero]; rfl)
              case hsx3k => kernel_rfl
              case hfx3k => kernel_rfl
              case hrx3k => kernel_rfl
              case hQx3k => exact fun _ _ _ h => h
              case hwx3k => rfl
              case hyx3k =>
                intro W hW
                have dd := CA.out W hW
                go_simp
                try with_reducible rfl
              simp only [Act.put, List.setIfInBounds_toArray, List.set_cons_succ, List.set_cons_zero]
              refine' wpAnyH_take (i := 4) ?h1x4k ?hsx4k ?hfx4k ?hrx4k ?hQx4k (Or.inl ⟨?hwx4k, ?hyx4k⟩) hS ?restx4k
              case h1x4k => (simp only [List.getElem?_toArray, List.getElem?_cons_succ, List.getElem?_cons_zero]; rfl)
              case hsx4k => kernel_rfl
              case hfx4k => kernel_rfl
              case hrx4k => kernel_rfl
              case hQx4k => exact fun _ _ _ h => h
              case hwx4k => rfl
              case hyx4k =>
                intro W hW
                go_simp
                try with_reducible rfl
              simp only [Act.put, List.setIfInBounds_toArray, List.set_cons_succ, List.set_cons_zero]
              refine' wpAnyH_take (i := 5) ?h1x5k ?hsx5k ?hfx5k ?hrx5k ?hQx5k (Or.inl ⟨?hwx5k, ?hyx5k⟩) hS ?restx5k
              case h1x5k => (simp only [List.getElem?_toArray, List.getElem?_cons_succ, List.getElem?_cons_zero]; rfl)
              case hsx5k => kernel_rfl
              case hfx5k => kernel_rfl
              case hrx5k => kernel_rfl
              case hQx5k => exact fun _ _ _ h => h
              case hwx5k => rfl
              case hyx5k =>
                intro W hW
                go_simp
                try with_reducible rfl
              simp only [Act.put, List.setIfInBounds_toArray, List.set_cons_succ, List.set_cons_zero]
              refine' wpAnyH_take (i := 6) ?h1x6k ?hsx6k ?hfx6k ?hrx6k ?hQx6k (Or.inl ⟨?hwx6k, ?hyx6k⟩) hS ?restx6k
              case h1x6k => (simp only [List.getElem?_toArray, List.getElem?_cons_succ, List.getElem?_cons_zero]; rfl)
              case hsx6k => kernel_rfl
              case hfx6k => kernel_rfl
              case hrx6k => kernel_rfl
              case hQx6k => exact fun _ _ _ h => h
              case hwx6k => rfl
              case hyx6k =>
                intro W hW
                go_simp
                try with_reducible rfl
              simp only [Act.put, List.setIfInBounds_toArray, List.set_cons_succ, List.set_cons_zero]
              refine' wpAnyH_take (i := 7) ?h1x7k ?hsx7k ?hfx7k ?hrx7k ?hQx7k (Or.inl ⟨?hwx7k, ?hyx7k⟩) hS ?restx7k
              case h1x7k => (simp only [List.getElem?_toArray, List.getElem?_cons_succ, List.getElem?_cons_zero]; rfl)
              case hsx7k => kernel_rfl
              case hfx7k => kernel_rfl
              case hrx7k => kernel_rfl
              case hQx7k => exact fun _ _ _ h => h
              case hwx7k => rfl
              case hyx7k =>
                intro W hW
                go_simp
                try with_reducible rfl
              simp only [Act.put, List.setIfInBounds_toArray, List.set_cons_succ, List.set_cons_zero]
              refine' wpAnyH_take (i := 8) ?h1x8k ?hsx8k ?hfx8k ?hrx8k ?hQx8k (Or.inl ⟨?hwx8k, ?hyx8k⟩) hS ?restx8k
              case h1x8k => (simp only [List.getElem?_toArray, List.getElem?_cons_succ, List.getElem?_cons_zero]; rfl)
              case hsx8k => kernel_rfl
              case hfx8k => kernel_rfl
              case hrx8k => kernel_rfl
              case hQx8k => exact fun _ _ _ h => h
              case hwx8k => rfl
              case hyx8k =>
                intro W hW
                have dd := WR1.out
                go_simp
                try with_reducible rfl
              simp only [Act.put, List.setIfInBounds_toArray, List.set_cons_succ, List.set_cons_zero]
              refine' wpAnyH_take (i := 9) ?h1x9k ?hsx9k ?hfx9k ?hrx9k ?hQx9k (Or.inl ⟨?hwx9k, ?hyx9k⟩) hS ?restx9k
              case h1x9k => (simp only [List.getElem?_toArray, List.getElem?_cons_succ, List.getElem?_cons_zero]; rfl)
              case hsx9k => kernel_rfl
              case hfx9k => kernel_rfl
              case hrx9k => kernel_rfl
              case hQx9k => exact fun _ _ _ h => h
              case hwx9k => rfl
              case hyx9k =>
                intro W hW
                obtain ⟨d1, d2⟩ := WR2.out
                go_simp
                try with_reducible rfl
              simp only [Act.put, List.setIfInBounds_toArray, List.set_cons_succ, List.set_cons_zero]
              refine' wpAnyH_take (i := 10) ?h1x10k ?hsx10k ?hfx10k ?hrx10k ?hQx10k (Or.inl ⟨?hwx10k, ?hyx10k⟩) hS ?restx10k
              case h1x10k => (simp only [List.getElem?_toArray, List.getElem?_cons_succ, List.getElem?_cons_zero]; rfl)
              case hsx10k => kernel_rfl
              case hfx10k => kernel_rfl
              case hrx10k => kernel_rfl
              case hQx10k => exact fun _ _ _ h => h
              case hwx10k => rfl
              case hyx10k =>
                intro W hW
                have dd := CX.out W hW
                go_simp
                try with_reducible rfl
              simp only [Act.put, List.setIfInBounds_toArray, List.set_cons_succ, List.set_cons_zero]
              refine' wpAnyH_take (i := 11) ?h1x11k ?hsx11k ?hfx11k ?hrx11k ?hQx11k (Or.inl ⟨?hwx11k, ?hyx11k⟩) hS ?restx11k
              case h1x11k => (simp only [List.getElem?_toArray, List.getElem?_cons_succ, List.getElem?_cons_zero]; rfl)
              case hsx11k => kernel_rfl
              case hfx11k => kernel_rfl
              case hrx11k => kernel_rfl
              case hQx11k => exact fun _ _ _ h => h
              case hwx11k => rfl
              case hyx11k =>
                intro W hW
                go_simp
                try with_reducible rfl
              simp only [Act.put, List.setIfInBounds_toArray, List.set_cons_succ, List.set_cons_zero]
              refine' wpAnyH_take (i := 12) ?h1x12k ?hsx12k ?hfx12k ?hrx12k ?hQx12k (Or.inl ⟨?hwx12k, ?hyx12k⟩) hS ?restx12k
              case h1x12k => (simp only [List.getElem?_toArray, List.getElem?_cons_succ, List.getElem?_cons_zero]; rfl)
              case hsx12k => kernel_rfl
              case hfx12k => kernel_rfl
              case hrx12k => kernel_rfl
              case hQx12k => exact fun _ _ _ h => h
              case hwx12k => rfl
              case hyx12k =>
                intro W hW
                go_simp
                try with_reducible rfl
              simp only [Act.put, List.setIfInBounds_toArray, List.set_cons_succ, List.set_cons_zero]
              refine' wpAnyH_take (i := 13) ?h1x13k ?hsx13k ?hfx13k ?hrx13k ?hQx13k (Or.inl ⟨?hwx13k, ?hyx13k⟩) hS ?restx13k
              case h1x13k => (simp only [List.getElem?_toArray, List.getElem?_cons_succ, List.getElem?_cons_zero]; rfl)
              case hsx13k => kernel_rfl
              case hfx13k => kernel_rfl
              case hrx13k => kernel_rfl
              case hQx13k => exact fun _ _ _ h => h
              case hwx13k => rfl
              case hyx13k =>
                intro W hW
                go_simp
                try with_reducible rfl
              simp only [Act.put, List.setIfInBounds_toArray, List.set_cons_succ, List.set_cons_zero]
              refine wpAnyH_ready (rs := [14]) (by kernel_rfl) (by simp) ?_
              refine' (AllReadyH.cons ?hoc14k (fun K hK => ?stc14k) AllReadyH.nil)
              case hoc14k => (simp only [List.getElem?_toArray, List.getElem?_cons_succ, List.getElem?_cons_zero]; rfl)
              have cc := DS.cellK PO.out D.out HA4.out HM.out
              have ff := D.out.free (9 + a * 32 + m)
              go_simp
              refine hK.out _ _ ((DS.setB PO.out D.out HA4.out HM.out x).1) (fun hHeld => ?_)
              clear hK K
              try simp only [Act.put, List.setIfInBounds_toArray, List.set_cons_succ, List.set_cons_zero]
              clear hS
              have hS := hHeld
              clear hHeld
              refine wpAnyH_done (by kernel_rfl) ?_ _
              have dn := DS.setB PO.out D.out HA4.out HM.out x
              rw [NXT.out] at dn
              clear D hS
              generalize World.setCell Wks ⟨w2.heap.size, 9 + a * 32 + m, none⟩ (.int .u8 x) = W9 at dn ⊢
              have DN := Lib.hid dn
              clear dn
              go_wp2_with fail
              go_roundw
              case rel => exact ⟨m + 1, by have := HM.out; omega, by go_num, DN.out⟩
              case measure => simp [intOf]; have := HM.out; omega
            · have hm32 : m = 32 := by omega
              subst hm32
              have D : Hid (DS w2.heap.size w3 (PK (PA (pz k) ys (nA k)) (ys.drop (sW (nA k))) ((nK k).take (j + 1))) wr) := by
                show DS _ _ _ _
                rw [mix_all KQ.out.1 NK.out.1] at hd
                rw [ES.out]
                exact hd
              clear hd hm hlm
              go_wp2_with fail
              go_roundw
              case rel =>
                refine ⟨j + 1, HJ.out, by go_num, ?_, D.out⟩
                have := HP.out
                congr 1
                omega
              case measure => simp [intOf]; have := HJ.out; omega
        · have hje : j = (nK k).length := by omega
          subst hje
          rw [List.take_of_length_le (Nat.le_refl _)] at hd
          have D := Lib.hid hd
          clear hd hlt hj
          have KO2 : Hid (RTok ((PK (PA (pz k) ys (nA k)) (ys.drop (sW (nA k))) (nK k)), (ys.drop (sW (nA k) + 32 * (nK k).length)), false)) := by
            have h := runR_ok ((nK k).map lK) KO1.out
            rw [run_kk (nK k) SK4.out _ _ KO1.out (by have := SAY.out; rw [List.length_drop]; omega), List.drop_drop] at h
            exact h
          have DB0 : Hid (DS w2.heap.size w3 (PA (PK (PA (pz k) ys (nA k)) (ys.drop (sW (nA k))) (nK k)) (ys.drop (sW (nA k) + 32 * (nK k).length)) ((nB k).take 0)) wr) := D.out
          clear D
          obtain ⟨wC, hC⟩ : ∃ x, x = wr := ⟨_, rfl⟩
          rw [← hC] at DB0 ⊢
          clear hC
          go_upto_region 20 with (fail)
          go_loopw [8, 12] (fun pos i wr => ∃ j : Nat, j ≤ (nB k).length ∧ i = .int .i64 j ∧ pos = .int .i64 ((2 + sW (nA k) + 32 * (nK k).length + sW ((nB k).take j) : Nat) : Int) ∧ DS w2.heap.size w3 (PA (PK (PA (pz k) ys (nA k)) (ys.drop (sW (nA k))) (nK k)) (ys.drop (sW (nA k) + 32 * (nK k).length)) ((nB k).take j)) wr) (fun _ i _ => (nB k).length - (intOf i).toNat)
          case atStart => exact ⟨0, Nat.zero_le _, rfl, by simp [sW], DB0.out⟩
          case round =>
            obtain ⟨j, hj, rfl, rfl, hd⟩ := hrel
            by_cases hlt : j < (nB k).length
            · have D := Lib.hid hd
              clear hd
              obtain ⟨a, ha⟩ : ∃ a, (nB k)[j]? = some a := ⟨_, List.getElem?_eq_getElem hlt⟩
              have ha8 : a < 8 := SB8.out a (List.mem_of_getElem? ha)
              obtain ⟨ga, e1, _⟩ := SB.out.at ha
              subst e1
              have CA : Hid (∀ W, Mods (fun g => g = w2.heap.size) w3 W → W.cell? ⟨ga, j, none⟩ = some (.int .i64 a)) := fun W h => by
                obtain ⟨g', e2, h2⟩ := (SB.out.mods G3.out h).at ha
                cases e2
                exact h2
              have e := sW_succ _ _ _ ha
              have e2 := sW_take (nB k) (j + 1)
              have hbd := SAY.out
              have hxl := HXL.out
              have hcl := HCL.out
              have hcm := HCM.out
              have hw := wN_cases a
              have hw0 : wN a ≠ 0 := by omega
              obtain ⟨q, hq⟩ : ∃ q, q = PA (PK (PA (pz k) ys (nA k)) (ys.drop (sW (nA k))) (nK k)) (ys.drop (sW (nA k) + 32 * (nK k).length)) ((nB k).take j) := ⟨_, rfl⟩
              obtain ⟨pos, hpos⟩ : ∃ pos, pos = 2 + sW (nA k) + 32 * (nK k).length + sW ((nB k).take j) := ⟨_, rfl⟩
              have hpx : pos + wN a ≤ xs.length := by omega
              obtain ⟨z, hz⟩ : ∃ z, z = numI ((xs.drop pos).take (wN a)) := ⟨_, rfl⟩
              have PO : Hid (RQ q) := by show RQ q; rw [hq]; exact PA_ok KO2.out _
              have ES : Hid (PA (PK (PA (pz k) ys (nA k)) (ys.drop (sW (nA k))) (nK k)) (ys.drop (sW (nA k) + 32 * (nK k).length)) ((nB k).take (j + 1)) = setN q (lN a) z) := by
                show _ = _
                have h := PA_succ (p := (PK (PA (pz k) ys (nA k)) (ys.drop (sW (nA k))) (nK k))) (ys := (ys.drop (sW (nA k) + 32 * (nK k).length))) (l := nB k) SB8.out (by rw [List.length_drop]; omega) j a ha
                rw [h, hq, hz, HX.out, hpos]
                rw [List.drop_drop, show 2 + sW (nA k) + 32 * (nK k).length + sW ((nB k).take j) = (sW (nA k) + 32 * (nK k).length + sW ((nB k).take j)) + 2 by omega]; rfl
              have zb : 0 ≤ z ∧ z ≤ 65535 := by
                have hl : ((xs.drop pos).take (wN a)).length = wN a := by rw [List.length_take, List.length_drop]; omega
                have h := numI_bd (wN a) _ hl ((S3.out.1.drop pos).take (wN a))
                rw [← hz] at h
                rcases hw with h2 | h2 <;> rw [h2] at h <;> omega
              have NB : Hid (∀ (W : World) (c' : Nat), Mods (fun g => g = w2.heap.size) w3 W → wN a ≤ c' → c' ≤ maxLen → Calls Try.prog 30 #[.slice (some ⟨b, o + pos, none⟩) (wN a) c'] W fun e w' => e = .returned (.int .u64 z) ∧ W = w') := fun W c' hm h1 h2 => by
                have hs := sees_sub (sees_mods S3.out hm (fun k hk => by simp [Value.ownBlock] at hk; have := HLT.out; have := LR.out; omega)) pos (wN a) c' hpx hw0 h1 h2
                rw [hz]
                exact octetPuts.number _ _ (by rw [List.length_take]; omega) W hs
              have WRZ : Hid (IntKind.i64.wrap z = z) := by
                show _ = _
                rw [IntKind.wrap_i64]
                omega
              have WC := Lib.hid (widthN a ha8)
              have E := Lib.hid e
              have HP := Lib.hid hpos
              have HA8 := Lib.hid ha8
              have HJ : Hid (j + 1 ≤ (nB k).length) := hlt
              have hc1 : pos + wN a ≤ cap := by omega
              have hc2 : wN a ≤ cap - pos := by omega
              have hc3 : cap - pos ≤ maxLen := by omega
              have hci : ((pos : Nat) : Int) + ((wN a : Nat) : Int) ≤ ((cap : Nat) : Int) := by omega
              obtain ⟨pe, hpe⟩ : ∃ pe, pe = pos + wN a := ⟨_, rfl⟩
              have hp5 : ((pos : Nat) : Int) ≤ 5000 := by have := HL5.out; omega
              have WR1 : Hid (IntKind.i64.wrap (((pos : Nat) : Int) + ((wN a : Nat) : Int)) = ((pe : Nat) : Int)) := by
                show _ = _
                rw [IntKind.wrap_i64]
                omega
              have WR2 : Hid ((0 : Int) ≤ ((pe : Nat) : Int) ∧ ((pe : Nat) : Int) ≤ ((cap : Nat) : Int) ∧ pos ≤ pe ∧ pe - pos = wN a ∧ ¬ cap = pos) := ⟨by omega, by omega, by omega, by omega, by omega⟩
              clear hpe
              have hlc : ((j : Nat) : Int) < (((nB k).length : Nat) : Int) := by omega
              have hj8 : ((j : Nat) : Int) ≤ 100 := by have := LB.out; omega
              have hwi : ((wN a : Nat) : Int) ≤ 2 := by omega
              have hw1 : (1 : Int) ≤ ((wN a : Nat) : Int) := by omega
              have z0 := zb.1
              have z1 := zb.2
              have ha8c : ((a : Nat) : Int) < 8 := by omega
              rw [← hq] at D
              rw [← hpos]
              clear hz zb hw hw0 hbd hxl hcl hpx e e2 ha hq hpos
              go_wp2_with fail
              refine wp_region_held_drew (S := fun W => Mods (fun g => g = w2.heap.size) w3 W) (by kernel_rfl) (D.out.drew.1) (fun hS => ?_)
              have qD := D.out.drew
              clear D
              generalize wr.drew = Wbs at hS qD ⊢
              have D := Lib.hid qD
              clear qD
              refine' wpAnyH_take (i := 0) ?h1x0b ?hsx0b ?hfx0b ?hrx0b ?hQx0b (Or.inl ⟨?hwx0b, ?hyx0b⟩) hS ?restx0b
              case h1x0b => (simp only [List.getElem?_toArray, List.getElem?_cons_zero]; rfl)
              case hsx0b => kernel_rfl
              case hfx0b => kernel_rfl
              case hrx0b => kernel_rfl
              case hQx0b => exact fun _ _ _ h => h
              case hwx0b => rfl
              case hyx0b =>
                intro W hW
                go_simp
                try with_reducible rfl
              simp only [Act.put, List.setIfInBounds_toArray, List.set_cons_succ, List.set_cons_zero]
              refine' wpAnyH_take (i := 1) ?h1x1b ?hsx1b ?hfx1b ?hrx1b ?hQx1b (Or.inl ⟨?hwx1b, ?hyx1b⟩) hS ?restx1b
              case h1x1b => (simp only [List.getElem?_toArray, List.getElem?_cons_succ, List.getElem?_cons_zero]; rfl)
              case hsx1b => kernel_rfl
              case hfx1b => kernel_rfl
              case hrx1b => kernel_rfl
              case hQx1b => exact fun _ _ _ h => h
              case hwx1b => rfl
              case hyx1b =>
                intro W hW
                go_simp
                try with_reducible rfl
              simp only [Act.put, List.setIfInBounds_toArray, List.set_cons_succ, List.set_cons_zero]
              refine' wpAnyH_take (i := 4) ?h1x4b ?hsx4b ?hfx4b ?hrx4b ?hQx4b (Or.inl ⟨?hwx4b, ?hyx4b⟩) hS ?restx4b
              case h1x4b => (simp only [List.getElem?_toArray, List.getElem?_cons_succ, List.getElem?_cons_zero]; rfl)
              case hsx4b => kernel_rfl
              case hfx4b => kernel_rfl
              case hrx4b => kernel_rfl
              case hQx4b => exact fun _ _ _ h => h
              case hwx4b => rfl
              case hyx4b =>
                intro W hW
                go_simp
                try with_reducible rfl
              simp only [Act.put, List.setIfInBounds_toArray, List.set_cons_succ, List.set_cons_zero]
              refine' wpAnyH_take (i := 5) ?h1x5b ?hsx5b ?hfx5b ?hrx5b ?hQx5b (Or.inl ⟨?hwx5b, ?hyx5b⟩) hS ?restx5b
              case h1x5b => (simp only [List.getElem?_toArray, List.getElem?_cons_succ, List.getElem?_cons_zero]; rfl)
              case hsx5b => kernel_rfl
              case hfx5b => kernel_rfl
              case hrx5b => kernel_rfl
              case hQx5b => exact fun _ _ _ h => h
              case hwx5b => rfl
              case hyx5b =>
                intro W hW
                go_simp
                try with_reducible rfl
              simp only [Act.put, List.setIfInBounds_toArray, List.set_cons_succ, List.set_cons_zero]
              refine' wpAnyH_take (i := 6) ?h1x6b ?hsx6b ?hfx6b ?hrx6b ?hQx6b (Or.inl ⟨?hwx6b, ?hyx6b⟩) hS ?restx6b
              case h1x6b => (simp only [List.getElem?_toArray, List.getElem?_cons_succ, List.getElem?_cons_zero]; rfl)
              case hsx6b => kernel_rfl
              case hfx6b => kernel_rfl
              case hrx6b => kernel_rfl
              case hQx6b => exact fun _ _ _ h => h
              case hwx6b => rfl
              case hyx6b =>
                intro W hW
                go_simp
                try with_reducible rfl
              simp only [Act.put, List.setIfInBounds_toArray, List.set_cons_succ, List.set_cons_zero]
              refine' wpAnyH_take (i := 7) ?h1x7b ?hsx7b ?hfx7b ?hrx7b ?hQx7b (Or.inl ⟨?hwx7b, ?hyx7b⟩) hS ?restx7b
              case h1x7b => (simp only [List.getElem?_toArray, List.getElem?_cons_succ, List.getElem?_cons_zero]; rfl)
              case hsx7b => kernel_rfl
              case hfx7b => kernel_rfl
              case hrx7b => kernel_rfl
              case hQx7b => exact fun _ _ _ h => h
              case hwx7b => rfl
              case hyx7b =>
                intro W hW
                go_simp
                try with_reducible rfl
              simp only [Act.put, List.setIfInBounds_toArray, List.set_cons_succ, List.set_cons_zero]
              refine' wpAnyH_take (i := 8) ?h1x8b ?hsx8b ?hfx8b ?hrx8b ?hQx8b (Or.inl ⟨?hwx8b, ?hyx8b⟩) hS ?restx8b
              case h1x8b => (simp only [List.getElem?_toArray, List.getElem?_cons_succ, List.getElem?_cons_zero]; rfl)
              case hsx8b => kernel_rfl
              case hfx8b => kernel_rfl
              case hrx8b => kernel_rfl
              case hQx8b => exact fun _ _ _ h => h
              case hwx8b => rfl
              case hyx8b =>
                intro W hW
                go_simp
                try with_reducible rfl
              simp only [Act.put, List.setIfInBounds_toArray, List.set_cons_succ, List.set_cons_zero]
              refine' wpAnyH_take (i := 16) ?h1x16b ?hsx16b ?hfx16b ?hrx16b ?hQx16b (Or.inl ⟨?hwx16b, ?hyx16b⟩) hS ?restx16b
              case h1x16b => (simp only [List.getElem?_toArray, List.getElem?_cons_succ, List.getElem?_cons_zero]; rfl)
              case hsx16b => kernel_rfl
              case hfx16b => kernel_rfl
              case hrx16b => kernel_rfl
              case hQx16b => exact fun _ _ _ h => h
              case hwx16b => rfl
              case hyx16b =>
                intro W hW
                go_simp
                try with_reducible rfl
              simp only [Act.put, List.setIfInBounds_toArray, List.set_cons_succ, List.set_cons_zero]
              refine' wpAnyH_take (i := 2) ?h1x2b ?hsx2b ?hfx2b ?hrx2b ?hQx2b (Or.inl ⟨?hwx2b, ?hyx2b⟩) hS ?restx2b
              case h1x2b => (simp only [List.getElem?_toArray, List.getElem?_cons_succ, List.getElem?_cons_zero]; rfl)
              case hsx2b => kernel_rfl
              case hfx2b => kernel_rfl
              case hrx2b => kernel_rfl
              case hQx2b => exact fun _ _ _ h => h
              case hwx2b => rfl
              case hyx2b =>
                intro W hW
                go_simp
                try with_reducible rfl
              simp only [Act.put, List.setIfInBounds_toArray, List.set_cons_succ, List.set_cons_zero]
              refine' wpAnyH_take (i := 9) ?h1x9b ?hsx9b ?hfx9b ?hrx9b ?hQx9b (Or.inl ⟨?hwx9b, ?hyx9b⟩) hS ?restx9b
              case h1x9b => (simp only [List.getElem?_toArray, List.getElem?_cons_succ, List.getElem?_cons_zero]; rfl)
              case hsx9b => kernel_rfl
              case hfx9b => kernel_rfl
              case hrx9b => kernel_rfl
              case hQx9b => exact fun _ _ _ h => h
              case hwx9b => rfl
              case hyx9b =>
                intro W hW
                go_simp
                try with_reducible rfl
              simp only [Act.put, List.setIfInBounds_toArray, List.set_cons_succ, List.set_cons_zero]
              refine' wpAnyH_take (i := 3) ?h1x3b ?hsx3b ?hfx3b ?hrx3b ?hQx3b (Or.inl ⟨?hwx3b, ?hyx3b⟩) hS ?restx3b
              case h1x3b => (simp only [List.getElem?_toArray, List.getElem?_cons_succ, List.getElem?_cons_zero]; rfl)
              case hsx3b => kernel_rfl
              case hfx3b => kernel_rfl
              case hrx3b => kernel_rfl
              case hQx3b => exact fun _ _ _ h => h
              case hwx3b => rfl
              case hyx3b =>
                intro W hW
                have dd := CA.out W hW
                go_simp
                try with_reducible rfl
              simp only [Act.put, List.setIfInBounds_toArray, List.set_cons_succ, List.set_cons_zero]
              refine' wpAnyH_take (i := 10) ?h1x10b ?hsx10b ?hfx10b ?hrx10b ?hQx10b (Or.inl ⟨?hwx10b, ?hyx10b⟩) hS ?restx10b
              case h1x10b => (simp only [List.getElem?_toArray, List.getElem?_cons_succ, List.getElem?_cons_zero]; rfl)
              case hsx10b => kernel_rfl
              case hfx10b => kernel_rfl
              case hrx10b => kernel_rfl
              case hQx10b => exact fun _ _ _ h => h
              case hwx10b => rfl
              case hyx10b =>
                intro W hW
                have dd := CA.out W hW
                go_simp
                try with_reducible rfl
              simp only [Act.put, List.setIfInBounds_toArray, List.set_cons_succ, List.set_cons_zero]
              refine wpAnyH_ready (rs := [11]) (by kernel_rfl) (by simp) ?_
              refine' (AllReadyH.cons ?hoc11b (fun K hK => ?stc11b) AllReadyH.nil)
              case hoc11b => (simp only [List.getElem?_toArray, List.getElem?_cons_succ, List.getElem?_cons_zero]; rfl)
              go_simp
              refine (WC.out Wbs).mono ?_
              rintro e W2 ⟨rfl, rfl⟩
              go_wp2_with fail
              refine hK.out _ _ hS (fun hHeld => ?_)
              clear hK K
              try simp only [Act.put, List.setIfInBounds_toArray, List.set_cons_succ, List.set_cons_zero]
              clear hS
              have hS := hHeld
              clear hHeld
              refine' wpAnyH_take (i := 12) ?h1x12bx11 ?hsx12bx11 ?hfx12bx11 ?hrx12bx11 ?hQx12bx11 (Or.inl ⟨?hwx12bx11, ?hyx12bx11⟩) hS ?restx12bx11
              case h1x12bx11 => (simp only [List.getElem?_toArray, List.getElem?_cons_succ, List.getElem?_cons_zero]; rfl)
              case hsx12bx11 => kernel_rfl
              case hfx12bx11 => kernel_rfl
              case hrx12bx11 => kernel_rfl
              case hQx12bx11 => exact fun _ _ _ h => h
              case hwx12bx11 => rfl
              case hyx12bx11 =>
                intro W hW
                have dd := WR1.out
                go_simp
                try with_reducible rfl
              simp only [Act.put, List.setIfInBounds_toArray, List.set_cons_succ, List.set_cons_zero]
              refine' wpAnyH_take (i := 13) ?h1x13bx11 ?hsx13bx11 ?hfx13bx11 ?hrx13bx11 ?hQx13bx11 (Or.inl ⟨?hwx13bx11, ?hyx13bx11⟩) hS ?restx13bx11
              case h1x13bx11 => (simp only [List.getElem?_toArray, List.getElem?_cons_succ, List.getElem?_cons_zero]; rfl)
              case hsx13bx11 => kernel_rfl
              case hfx13bx11 => kernel_rfl
              case hrx13bx11 => kernel_rfl
              case hQx13bx11 => exact fun _ _ _ h => h
              case hwx13bx11 => rfl
              case hyx13bx11 =>
                intro W hW
                obtain ⟨d1, d2, d3, d4, d5⟩ := WR2.out
                go_simp
                try with_reducible rfl
              simp only [Act.put, List.setIfInBounds_toArray, List.set_cons_succ, List.set_cons_zero]
              refine wpAnyH_ready (rs := [14]) (by kernel_rfl) (by simp) ?_
              refine' (AllReadyH.cons ?hoc14bx11 (fun K hK => ?stc14bx11) AllReadyH.nil)
              case hoc14bx11 => (simp only [List.getElem?_toArray, List.getElem?_cons_succ, List.getElem?_cons_zero]; rfl)
              go_simp
              refine (NB.out Wbs (cap - pos) hS (by omega) (by omega)).mono ?_
              rintro e W2 ⟨rfl, rfl⟩
              go_wp2_with fail
              refine hK.out _ _ hS (fun hHeld => ?_)
              clear hK K
              try simp only [Act.put, List.setIfInBounds_toArray, List.set_cons_succ, List.set_cons_zero]
              clear hS
              have hS := hHeld
              clear hHeld
              refine' wpAnyH_take (i := 15) ?h1x15bx11x14 ?hsx15bx11x14 ?hfx15bx11x14 ?hrx15bx11x14 ?hQx15bx11x14 (Or.inl ⟨?hwx15bx11x14, ?hyx15bx11x14⟩) hS ?restx15bx11x14
              case h1x15bx11x14 => (simp only [List.getElem?_toArray, List.getElem?_cons_succ, List.getElem?_cons_zero]; rfl)
              case hsx15bx11x14 => kernel_rfl
              case hfx15bx11x14 => kernel_rfl
              case hrx15bx11x14 => kernel_rfl
              case hQx15bx11x14 => exact fun _ _ _ h => h
              case hwx15bx11x14 => rfl
              case hyx15bx11x14 =>
                intro W hW
                have dd := WRZ.out
                go_simp
                try with_reducible rfl
              simp only [Act.put, List.setIfInBounds_toArray, List.set_cons_succ, List.set_cons_zero]
              refine' wpAnyH_take (i := 17) ?h1x17bx11x14 ?hsx17bx11x14 ?hfx17bx11x14 ?hrx17bx11x14 ?hQx17bx11x14 (Or.inl ⟨?hwx17bx11x14, ?hyx17bx11x14⟩) hS ?restx17bx11x14
              case h1x17bx11x14 => (simp only [List.getElem?_toArray, List.getElem?_cons_succ, List.getElem?_cons_zero]; rfl)
              case hsx17bx11x14 => kernel_rfl
              case hfx17bx11x14 => kernel_rfl
              case hrx17bx11x14 => kernel_rfl
              case hQx17bx11x14 => exact fun _ _ _ h => h
              case hwx17bx11x14 => rfl
              case hyx17bx11x14 =>
                intro W hW
                go_simp
                try with_reducible rfl
              simp only [Act.put, List.setIfInBounds_toArray, List.set_cons_succ, List.set_cons_zero]
              refine wpAnyH_ready (rs := [18]) (by kernel_rfl) (by simp) ?_
              refine' (AllReadyH.cons ?hoc18bx11x14 (fun K hK => ?stc18bx11x14) AllReadyH.nil)
              case hoc18bx11x14 => (simp only [List.getElem?_toArray, List.getElem?_cons_succ, List.getElem?_cons_zero]; rfl)
              have cc := DS.cellN PO.out D.out HA8.out
              have ff := D.out.free (1 + a)
              go_simp
              refine hK.out _ _ ((D.out.setN HA8.out z).1) (fun hHeld => ?_)
              clear hK K
              try simp only [Act.put, List.setIfInBounds_toArray, List.set_cons_succ, List.set_cons_zero]
              clear hS
              have hS := hHeld
              clear hHeld
              refine wpAnyH_done (by kernel_rfl) ?_ _
              have dn := D.out.setN HA8.out z
              have ca2 := CA.out _ dn.1
              clear D hS
              generalize World.setCell Wbs ⟨w2.heap.size, 1 + a, none⟩ (.int .i64 z) = W9 at dn ca2 ⊢
              have DN := Lib.hid dn
              clear dn
              go_wp2_with fail
              refine (WC.out _).mono ?_
              rintro e W2 ⟨rfl, rfl⟩
              go_wp2_with fail
              go_roundw
              case rel =>
                refine ⟨j + 1, HJ.out, by go_num, ?_, by rw [ES.out]; exact DN.out⟩
                rw [E.out]
                have := HP.out
                congr 1
                omega
              case measure => simp [intOf]; have := HJ.out; omega
            · have hje : j = (nB k).length := by omega
              subst hje
              rw [List.take_of_length_le (Nat.le_refl _)] at hd ⊢
              have D := Lib.hid hd
              clear hd hlt hj
              obtain ⟨pos, hpos⟩ : ∃ pos, pos = 2 + sW (nA k) + 32 * (nK k).length + sW (nB k) := ⟨_, rfl⟩
              rw [← hpos]
              have hfl := flen_s k
              have hff := HF.out
              have hxl := HXL.out
              have hcl := HCL.out
              have hcm := HCM.out
              have hpf : pos = flen k + 2 := by omega
              have hpx : pos ≤ xs.length := by omega
              obtain ⟨wD, hD⟩ : ∃ x, x = wr := ⟨_, rfl⟩
              rw [← hD] at D ⊢
              clear hD
              obtain ⟨qn, hqn⟩ : ∃ q, q = PA (PK (PA (pz k) ys (nA k)) (ys.drop (sW (nA k))) (nK k)) (ys.drop (sW (nA k) + 32 * (nK k).length)) (nB k) := ⟨_, rfl⟩
              rw [← hqn] at D
              have qno : RQ qn := by rw [hqn]; exact PA_ok KO2.out _
              have QFE : Hid (QF k ys = { qn with d := ys.drop (flen k) }) := by show _ = _; rw [hqn]; rfl
              have QOK := Lib.hid (QF_ok I64.out HYB.out (by have := HYL.out; omega) HF.out)
              obtain ⟨ad, had⟩ : ∃ ad, ad = (if cap = pos then (⟨b, o, none⟩ : Addr) else ⟨b, o + pos, none⟩) := ⟨_, rfl⟩
              have SD : Hid (∀ W, Mods (fun g => g = w2.heap.size) w3 W → Sees W (.slice (some ad) (xs.length - pos) (cap - pos)) (QF k ys).d) := fun W h => by
                have hs := sees_mods S3.out h (fun k hk => by simp [Value.ownBlock] at hk; have := HLT.out; have := LR.out; omega)
                rw [QOK.out.2.2]
                have e : ys.drop (flen k) = xs.drop pos := by rw [HX.out, hpf]; rfl
                rw [e]
                exact sees_rest hs HCL.out HCM.out hpx ad (fun hlt => by rw [had, if_neg (by omega)])
              have cc : wD.cell? ⟨w2.heap.size, 137, none⟩ = some (.slice none 0 0) := (row35 qno D.out.2).2.2
              have ff := D.out.free 137
              have dn : Mods (fun g => g = w2.heap.size) w3 (wD.setCell ⟨w2.heap.size, 137, none⟩ (.slice (some ad) (xs.length - pos) (cap - pos))) ∧ (wD.setCell ⟨w2.heap.size, 137, none⟩ (.slice (some ad) (xs.length - pos) (cap - pos))).heap[w2.heap.size]? = some (.cells (rc (QF k ys) (.slice (some ad) (xs.length - pos) (cap - pos))).toArray 35 (0, 0)) := by
                rw [setCellRow wD _ _ _ 35 _ D.out.2, rc_setD qno _ _ (ys.drop (flen k)), ← QFE.out]
                exact ⟨D.out.1.trans (Mods.row wD _ _) (fun b hb => .inl hb), setRow_heap _ _ _ _ _ _ D.out.2⟩
              have DN := Lib.hid dn
              obtain ⟨wE, hE⟩ : ∃ x, x = wD.setCell ⟨w2.heap.size, 137, none⟩ (.slice (some ad) (xs.length - pos) (cap - pos)) := ⟨_, rfl⟩
              have hx5 : ((xs.length : Nat) : Int) ≤ 5000 := by have := HL5.out; omega
              have hpi : ((pos : Nat) : Int) ≤ ((xs.length : Nat) : Int) := by omega
              have hci : ((xs.length : Nat) : Int) ≤ ((cap : Nat) : Int) := by omega
              rw [← hE] at dn
              obtain ⟨DV, hDV⟩ : ∃ DV, DV = Value.slice (some ad) (xs.length - pos) (cap - pos) := ⟨_, rfl⟩
              have HA : Hid ((if cap = pos then some (⟨b, o, none⟩ : Addr) else some ⟨b, o + pos, none⟩) = some ad) := by show _ = _; rw [had]; split <;> rfl
              have HE := Lib.hid hE
              have YE := Lib.hid ((dn.1.block w.heap.size (blk_lt Y3.out) (by have := LR.out; omega)).trans Y3.out)
              have BE : Hid (Below w.heap.size w wE) := below_m B3.out (Nat.le_of_lt LR.out) dn.1
              have sde := SD.out wE dn.1
              have gq := dn.2
              rw [← hDV] at sde gq
              have ic2 := i35 QOK.out.1 DV
              have oc2 := rc_one (p := QF k ys) sde.one
              have h5q : (QF k ys).d.length ≤ 5000 := by rw [QOK.out.2.2, List.length_drop]; have := HYL.out; omega
              have en := encodeD QOK.out.1 h5q DV wE sde
              obtain ⟨C2, hC2⟩ : ∃ C2, C2 = (rc (QF k ys) DV).toArray := ⟨_, rfl⟩
              rw [← hC2] at gq ic2 oc2 en
              have GE := Lib.hid gq
              have IC2 := Lib.hid ic2
              have OC2 := Lib.hid oc2
              have EN := Lib.hid en
              have SDE := Lib.hid sde
              have IZC2 : Hid (Z.size = C2.size) := Option.some.inj (IZ.out.symm.trans IC2.out)
              have HBX := Lib.hid S3.out.1
              have DVB : Hid (∀ k, DV.ownBlock = some k → k < w.heap.size) := fun k hk => by
                rw [hDV, had] at hk
                have := HLT.out
                split at hk <;> (simp [Value.ownBlock] at hk; omega)
              have HSV : Hid (∀ W, Below w.heap.size w W → Sees W (.slice (some ⟨b, o, none⟩) xs.length cap) xs) := fun W h => HS.out.below h
              have NO : Hid ((rightQ (QF k ys) = false ∨ ¬ bytR (QF k ys) = xs) → ∀ W, Below w.heap.size w W → DecS w xs (.returned (.tuple #[.agg Z, .int .i64 70])) W) := fun h W hb => by
                have hok : dOk xs = false := by
                  rw [Bool.eq_false_iff]
                  intro e
                  obtain ⟨_, e2, e3⟩ := dok_q HBX.out (by have := HL5.out; omega) e f k ys HX.out
                  rcases h with h | h
                  · rw [h] at e2; cases e2
                  · exact h e3.symm
                rw [HIZ.out]
                exact sno hok hb
              have YES : Hid (rightQ (QF k ys) = true → bytR (QF k ys) = xs → ∀ W, Below w.heap.size w W → Sees W DV (QF k ys).d → DecS w xs (.returned (.tuple #[.agg C2, .int .i64 0])) W) := fun h1 h2 W hb hs => by
                have hok := q_dok I64.out HYB.out HYL.out HF.out h1 h2
                have e := (dok_q HBX.out (by have := HL5.out; omega) hok f k ys HX.out).1
                unfold DecS decP decE
                rw [if_pos hok, if_pos hok, ← e]
                exact ⟨DV, by rw [hC2], QOK.out.1, hs, hb⟩
              clear dn hpos hfl hff hxl hcl hcm hpf hpx hqn qno KO1 KO2 DB0 DK0 D3 RN GZ HBK had hE sde gq ic2 oc2 en h5q DN SD D hC2 hDV
              go_upto_region 24 with (fail)
              go_upto_region 25 with (fail)
              rw [HA.out, ← HE.out]
              clear cc ff
              cases hr : rightQ (QF k ys) with
              | false =>
                have ee : encE (QF k ys) = 3 := by unfold encE; rw [if_neg (by rw [hr]; decide)]
                have OK := Lib.hid (NO.out (.inl hr))
                go_wp2_with (refine wpList_load_row rfl 35 (.tmp 4) rfl w2.heap.size rfl 35 C2 (0, 0) _ GE.out Try.underlying35 rfl IC2.out ?_)
                refine EN.out.mono ?_
                rintro e w5 ⟨x, cp, rfl, hs5, hb⟩
                rw [ee]
                have B5 := Lib.hid (BE.out.trans (hb.mono BE.out.size))
                have Y5 := Lib.hid ((hb.block _ (blk_lt YE.out)).trans YE.out)
                clear hb hs5 ee hr
                generalize encV (QF k ys) = ev
                go_wp2_with (first | (refine wpList_build0_run rfl 35 rfl (BZ.out w5) ?_) | (refine wpList_store_row rfl 35 (.tmp 2) (.tmp 160) rfl w.heap.size Z rfl rfl 35 Z Y5.out IZ.out rfl OZ.out ?_))
                have YZ : Hid (_ = some (Obj.cells Z 35 (0, 0))) := setRow_heap _ w.heap.size Z Z _ _ Y5.out
                exact bodyPost_ret (v := .tuple #[.agg Z, .int .i64 70]) (results_ct rfl _ _ w.heap.size 35 Z (0, 0) _ (.int .i64 70) rfl rfl YZ.out Try.underlying35 ⟨_, rfl⟩ IZ.out) rfl (OK.out _ (B5.out.trans (below_row _ _ (Nat.le_refl _))))
              | true =>
                have ee : encE (QF k ys) = 0 := by unfold encE; rw [if_pos hr]
                have ev : encV (QF k ys) = bytR (QF k ys) := by unfold encV; rw [if_pos hr]; rfl
                by_cases hq : bytR (QF k ys) = xs
                · have OK := Lib.hid (YES.out hr hq)
                  go_wp2_with (refine wpList_load_row rfl 35 (.tmp 4) rfl w2.heap.size rfl 35 C2 (0, 0) _ GE.out Try.underlying35 rfl IC2.out ?_)
                  refine EN.out.mono ?_
                  rintro e w5 ⟨x, cp, rfl, hs5, hb⟩
                  rw [ee]
                  rw [ev] at hs5 ⊢
                  rw [hq] at hs5 ⊢
                  have B5 := Lib.hid (BE.out.trans (hb.mono BE.out.size))
                  have Y5 := Lib.hid ((hb.block _ (blk_lt YE.out)).trans YE.out)
                  have G5 := Lib.hid ((hb.block _ (blk_lt GE.out)).trans GE.out)
                  have D5 := Lib.hid (SDE.out.below hb)
                  have c1 := hs5.str
                  have c2 := (HSV.out w5 B5.out).str
                  clear hb hs5 ee ev hr hq
                  generalize strOfNums xs = ST at c1 c2
                  go_wp2_with (first | (refine wpList_load_row rfl 35 (.tmp 4) rfl w2.heap.size rfl 35 C2 (0, 0) _ G5.out Try.underlying35 rfl IC2.out ?_) | (refine wpList_store_row rfl 35 (.tmp 2) (.tmp 161) rfl w.heap.size C2 rfl rfl 35 Z Y5.out IC2.out IZC2.out OC2.out ?_))
                  have YZ : Hid (_ = some (Obj.cells C2 35 (0, 0))) := setRow_heap _ w.heap.size Z C2 _ _ Y5.out
                  exact bodyPost_ret (v := .tuple #[.agg C2, .int .i64 0]) (results_ct rfl _ _ w.heap.size 35 C2 (0, 0) _ (.int .i64 0) rfl rfl YZ.out Try.underlying35 ⟨_, rfl⟩ IC2.out) rfl (OK.out _ (B5.out.trans (below_row _ _ (Nat.le_refl _))) (sees_mods D5.out (Mods.row _ _ _) (fun k hk e => by have := DVB.out k hk; omega)))
                · have OK := Lib.hid (NO.out (.inr hq))
                  go_wp2_with (refine wpList_load_row rfl 35 (.tmp 4) rfl w2.heap.size rfl 35 C2 (0, 0) _ GE.out Try.underlying35 rfl IC2.out ?_)
                  refine EN.out.mono ?_
                  rintro e w5 ⟨x, cp, rfl, hs5, hb⟩
                  rw [ee]
                  rw [ev] at hs5 ⊢
                  have B5 := Lib.hid (BE.out.trans (hb.mono BE.out.size))
                  have Y5 := Lib.hid ((hb.block _ (blk_lt YE.out)).trans YE.out)
                  have c1 := hs5.str
                  have c2 := (HSV.out w5 B5.out).str
                  have se := str_eq (bytR (QF k ys)) xs hs5.1 HBX.out
                  rw [decide_eq_false hq] at se
                  clear hb hs5 ee ev hr hq
                  generalize strOfNums xs = ST at c2 se
                  generalize strOfNums (bytR (QF k ys)) = SU at c1 se
                  generalize bytR (QF k ys) = bq at *
                  go_wp2_with (first | (refine wpList_build0_run rfl 35 rfl (BZ.out w5) ?_) | (refine wpList_store_row rfl 35 (.tmp 2) (.tmp 160) rfl w.heap.size Z rfl rfl 35 Z Y5.out IZ.out rfl OZ.out ?_))
                  have YZ : Hid (_ = some (Obj.cells Z 35 (0, 0))) := setRow_heap _ w.heap.size Z Z _ _ Y5.out
                  exact bodyPost_ret (v := .tuple #[.agg Z, .int .i64 70]) (results_ct rfl _ _ w.heap.size 35 Z (0, 0) _ (.int .i64 70) rfl rfl YZ.out Try.underlying35 ⟨_, rfl⟩ IZ.out) rfl (OK.out _ (B5.out.trans (below_row _ _ (Nat.le_refl _))))
end Go.Proofs.Ytdohggpajhkkhaa
