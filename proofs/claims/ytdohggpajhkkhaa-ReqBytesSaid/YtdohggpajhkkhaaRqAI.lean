/-
  The walk of ReqBytes. Condition: the arguments read as requests and as bytes, each at most 5000.
-/
import Derived.Test.YtdohggpajhkkhaaRqQ
import Derived.Test.YtdohggpajhkkhaaRqAG
namespace Go.Proofs.Ytdohggpajhkkhaa
open Go.RowKit
set_option maxRecDepth 100000 in
set_option maxHeartbeats 1000000 in
theorem bytes_great {p q : Rq} (hp : RQ (bare p)) (hq : RQ (bare q)) (dv du v : Value) (xs : List Int) (w : World) (hd : Sees w dv p.d) (he : Sees w du q.d) (hs : Sees w v xs) (hg : 5000 < p.d.length ∨ 5000 < q.d.length ∨ 5000 < xs.length) :
    Calls Try.prog 3 #[.agg (rc p dv).toArray, .agg (rc q du).toArray, v] w (AliveP w) := by
  obtain ⟨xa, ca, _, ka, ea⟩ := great_cell hp hd
  obtain ⟨xb, cb, _, kb', eb⟩ := great_cell hq he
  obtain ⟨xv, cv, rfl, kv⟩ := hs.form
  generalize (rc p dv).toArray = A at *
  generalize (rc q du).toArray = B at *
  obtain ⟨w1, hw1⟩ : ∃ w1, w1 = w.alloc (.cells A 26) := ⟨_, rfl⟩
  obtain ⟨w2, hw2⟩ : ∃ w2, w2 = w1.alloc (.cells B 26) := ⟨_, rfl⟩
  have z1 : w1.heap.size = w.heap.size + 1 := by rw [hw1]; simp
  have b1 : Below w.heap.size w w1 := by rw [hw1]; exact (Below.refl _ _).alloc (Nat.le_refl _) _
  have b2 : Below w1.heap.size w1 w2 := by rw [hw2]; exact (Below.refl _ _).alloc (Nat.le_refl _) _
  have g1 : w2.heap[w.heap.size]? = some (.cells A 26 (0, 0)) := by rw [b2.block _ (by omega), hw1]; exact heap_alloc_new w _
  have g2 : w2.heap[w.heap.size + 1]? = some (.cells B 26 (0, 0)) := by rw [hw2, ← z1]; exact heap_alloc_new w1 _
  have BE : Hid (Below w.heap.size w w2) := b1.trans (b2.mono (by omega))
  have ca0 : w2.cell? ⟨w.heap.size, 137, none⟩ = some (.slice xa p.d.length ca) := by rw [cell_of_row w2 _ _ _ _ _ g1]; exact ea
  have cb0 : w2.cell? ⟨w.heap.size + 1, 137, none⟩ = some (.slice xb q.d.length cb) := by rw [cell_of_row w2 _ _ _ _ _ g2]; exact eb
  have HW1 := Lib.hid hw1
  have HW2 := Lib.hid hw2
  clear hw1 hw2 z1 b1 b2 g1 g2 hd he ea eb hp hq hs
  generalize p.d.length = np at *
  generalize q.d.length = nq at *
  generalize xs.length = nx at *
  by_cases hp5 : 5000 < np
  · have n5 : decide (5000 < np) = true := decide_eq_true hp5
    have k5 : (5000 : Int) < (np : Int) := by omega
    clear hg
    go_enter Try.func3, Try.ntmps3
    go_wp2_with (first | rw [← HW1.out, ← HW2.out])
    refine (alive _).mono ?_
    rintro e w3 ⟨rfl, hb⟩
    have B3 := Lib.hid (BE.out.trans (hb.mono BE.out.size))
    clear hb
    go_wp2_with fail
    go_ret
    exact ⟨rfl, B3.out⟩
  · have n5 : decide (5000 < np) = false := decide_eq_false hp5
    have k5 : ((np : Nat) : Int) ≤ 5000 := by omega
    by_cases hq5 : 5000 < nq
    · have n6 : decide (5000 < nq) = true := decide_eq_true hq5
      have k6 : (5000 : Int) < (nq : Int) := by omega
      clear hg
      go_enter Try.func3, Try.ntmps3
      go_wp2_with (first | rw [← HW1.out, ← HW2.out])
      refine (alive _).mono ?_
      rintro e w3 ⟨rfl, hb⟩
      have B3 := Lib.hid (BE.out.trans (hb.mono BE.out.size))
      clear hb
      go_wp2_with fail
      go_ret
      exact ⟨rfl, B3.out⟩
    · have n6 : decide (5000 < nq) = false := decide_eq_false hq5
      have k6 : ((nq : Nat) : Int) ≤ 5000 := by omega
      have hx5 : 5000 < nx := by omega
      have n7 : decide (5000 < nx) = true := decide_eq_true hx5
      have k7 : (5000 : Int) < (nx : Int) := by omega
      clear hg
      go_enter Try.func3, Try.ntmps3
      go_wp2_with (first | rw [← HW1.out, ← HW2.out])
      refine (alive _).mono ?_
      rintro e w3 ⟨rfl, hb⟩
      have B3 := Lib.hid (BE.out.trans (hb.mono BE.out.size))
      clear hb
      go_wp2_with fail
      go_ret
      exact ⟨rfl, B3.out⟩
theorem own_set {w : World} {base : Nat} {x : Option Addr} {n c : Nat} {zs : List Int} {i : Nat} (h : Own w base (.slice x n c) zs) (hi : i < zs.length) : ∃ g, x = some ⟨g, 0, none⟩ ∧ base ≤ g ∧ w.cell? ⟨g, i, none⟩ = some (.int .u8 (nth zs i)) ∧ w.frozen? ⟨g, i, none⟩ = false ∧
    ∀ z : Int, 0 ≤ z ∧ z ≤ 255 → Own (w.setCell ⟨g, i, none⟩ (.int .u8 z)) base (.slice x n c) (zs.set i z) ∧ w.grownBy (w.setCell ⟨g, i, none⟩ (.int .u8 z)) (some g) := by
  obtain ⟨hb, hl, ⟨e, h0⟩ | ⟨g, cap, cur, e, hbg, hg, hn, hm, hs, ht⟩⟩ := h
  · omega
  · injection e with e1 e2 e3
    subst e1 e2 e3
    have hit : (zs.map (Value.int .u8))[i]? = some (.int .u8 (nth zs i)) := by simp [nth, List.getD, hi]
    rw [Nat.mul_one] at ht
    have hci : cur[i]? = some (.int .u8 (nth zs i)) := by
      rw [← ht, List.getElem?_take_of_lt hi] at hit
      simpa using hit
    refine ⟨g, rfl, hbg, by rw [cell_of_row w _ _ _ _ _ hg]; exact hci, frozen_block hg i, fun z hz => ?_⟩
    refine ⟨⟨fun y hy => ?_, by simp, .inr ⟨g, c, cur.setIfInBounds i (.int .u8 z), by simp, hbg, heap_setCell_same _ _ _ _ _ _ hg, by simpa using hn, hm, by simpa using hs, ?_⟩⟩, by rw [setCell_eq_setRow _ _ _ _ _ _ _ hg]; exact grownBy_setRow _ _ _⟩
    · rcases List.mem_or_eq_of_mem_set hy with hy | hy
      · exact hb y hy
      · rw [hy]; exact hz
    · rw [Array.toList_setIfInBounds, List.length_set, Nat.mul_one, List.take_set, ht, List.map_set]
set_option maxRecDepth 100000 in
set_option maxHeartbeats 4000000 in
theorem bytes_ok {p q : Rq} (hp : RQ p) (hq : RQ q) (h5 : p.d.length ≤ 5000) (h6 : q.d.length ≤ 5000) (dv du v : Value) (xs : List Int) (hx5 : xs.length ≤ 5000) (w : World) (hd : Sees w dv p.d) (he : Sees w du q.d) (hs : Sees w v xs) :
    Calls Try.prog 3 #[.agg (rc p dv).toArray, .agg (rc q du).toArray, v] w (AliveP w) := by
  have ia := Lib.hid (i26 hp dv)
  have ib := Lib.hid (i26 hq du)
  obtain ⟨xa, ca, ea, xa63⟩ := hd.form
  obtain ⟨xb, cb, eb, xb63⟩ := he.form
  obtain ⟨xv, cv, rfl, xv63⟩ := hs.form
  obtain ⟨A, hA⟩ : ∃ A, A = (rc p dv).toArray := ⟨_, rfl⟩
  obtain ⟨B, hB⟩ : ∃ B, B = (rc q du).toArray := ⟨_, rfl⟩
  rw [← hA] at ia ⊢
  rw [← hB] at ib ⊢
  obtain ⟨w1, hw1⟩ : ∃ w1, w1 = w.alloc (.cells A 26) := ⟨_, rfl⟩
  obtain ⟨w2, hw2⟩ : ∃ w2, w2 = w1.alloc (.cells B 26) := ⟨_, rfl⟩
  have z1 : w1.heap.size = w.heap.size + 1 := by rw [hw1]; simp
  have b1 : Below w.heap.size w w1 := by rw [hw1]; exact (Below.refl _ _).alloc (Nat.le_refl _) _
  have b2 : Below w1.heap.size w1 w2 := by rw [hw2]; exact (Below.refl _ _).alloc (Nat.le_refl _) _
  have g1 : w2.heap[w.heap.size]? = some (.cells A 26 (0, 0)) := by rw [b2.block _ (by omega), hw1]; exact heap_alloc_new w _
  have g2 : w2.heap[w.heap.size + 1]? = some (.cells B 26 (0, 0)) := by rw [hw2, ← z1]; exact heap_alloc_new w1 _
  have BE : Hid (Below w.heap.size w w2) := b1.trans (b2.mono (by omega))
  have CD : Hid (∀ W : World, W.heap[w.heap.size]? = some (.cells A 26 (0, 0)) → W.cell? ⟨w.heap.size, 137, none⟩ = some (.slice xa p.d.length ca) ∧ W.cell? ⟨w.heap.size, 0, none⟩ = some (.int .i64 p.k) ∧ W.cell? ⟨w.heap.size, 5, none⟩ = some (.int .i64 p.c)) := fun W h => by
    rw [hA] at h
    exact ⟨by rw [← ea]; exact row_dat hp h, by rw [cell_of_row W _ _ _ _ _ h]; rfl, row_num h (l := 99) rfl⟩
  have ca0 := (CD.out w2 g1).1
  have cb0 : w2.cell? ⟨w.heap.size + 1, 137, none⟩ = some (.slice xb q.d.length cb) := by rw [hB] at g2; rw [← eb]; exact row_dat hq g2
  have EA : Hid (∀ W, Below w.heap.size w W → Calls Try.prog 8 #[.agg A] W (EncP W p)) := fun W h => by rw [hA]; exact encodeC hp h5 dv W (hd.below h)
  have EB : Hid (∀ W, Below w.heap.size w W → Calls Try.prog 9 #[.agg A] W (EncP W p)) := fun W h => by rw [hA]; exact encodeD hp h5 dv W (hd.below h)
  have AA : Hid (∀ W, Below w.heap.size w W → Calls Try.prog 10 #[.agg A] W fun e w' => e = .returned (.agg A) ∧ Below W.heap.size W w') := fun W h => by rw [hA]; exact asC hp dv W (hd.below h)
  have CP : Hid (∀ W, Below w.heap.size w W → Calls Try.prog 11 #[.slice xv xs.length cv] W (OwnP W xs)) := fun W h => copyC _ xs W (hs.below h) (by omega)
  have DC : Hid (∀ v' W, Sees W v' xs → Calls Try.prog 12 #[v'] W (DecP W xs)) := fun v' W h => decodeC v' xs (by omega) W h
  have DD : Hid (∀ W, Below w.heap.size w W → Calls Try.prog 13 #[.slice xv xs.length cv] W (DecS W xs)) := fun W h => decodeD _ xs hx5 W (hs.below h)
  have n5 : decide (5000 < p.d.length) = false := decide_eq_false (by omega)
  have k5 : ((p.d.length : Nat) : Int) ≤ 5000 := by omega
  have n6 : decide (5000 < q.d.length) = false := decide_eq_false (by omega)
  have k6 : ((q.d.length : Nat) : Int) ≤ 5000 := by omega
  have n7 : decide (5000 < xs.length) = false := decide_eq_false (by omega)
  have k7 : ((xs.length : Nat) : Int) ≤ 5000 := by omega
  have G1 := Lib.hid g1
  have G2 := Lib.hid g2
  have HW1 := Lib.hid hw1
  have HW2 := Lib.hid hw2
  have HA := Lib.hid hA
  have HB := Lib.hid hB
  have HP := Lib.hid hp
  have HQ := Lib.hid hq
  have HD := Lib.hid hd
  have HE := Lib.hid he
  have HS := Lib.hid hs
  have H5 := Lib.hid h5
  have H6 := Lib.hid h6
  have HX5 := Lib.hid hx5
  clear hw1 hw2 z1 b1 b2 g1 g2 hA hB hp hq hd he hs h5 h6 hx5 ea eb
  go_enter Try.func3, Try.ntmps3
  go_upto_region 1 with (fail)
  rw [← HW1.out, ← HW2.out]
  go_upto_region 3 with (fail)
  clear ca0 cb0
  go_wp2_with (refine wpList_load_row rfl 26 (.tmp 3) rfl w.heap.size rfl 26 A (0, 0) _ G1.out Try.underlying26 rfl ia.out ?_)
  refine (EA.out w2 BE.out).mono ?_
  rintro e w3 ⟨x3, c3, rfl, hs3, hb⟩
  have B3 := Lib.hid (BE.out.trans (hb.mono BE.out.size))
  have A3 := Lib.hid ((hb.block _ (blk_lt G1.out)).trans G1.out)
  have Q3 := Lib.hid ((hb.block _ (blk_lt G2.out)).trans G2.out)
  have S3 := Lib.hid hs3
  clear hb hs3 G1 G2 BE
  go_wp2_with (refine wpList_load_row rfl 26 (.tmp 3) rfl w.heap.size rfl 26 A (0, 0) _ A3.out Try.underlying26 rfl ia.out ?_)
  refine (AA.out w3 B3.out).mono ?_
  rintro e w4 ⟨rfl, hb⟩
  have B4 := Lib.hid (B3.out.trans (hb.mono B3.out.size))
  have A4 := Lib.hid ((hb.block _ (blk_lt A3.out)).trans A3.out)
  have Q4 := Lib.hid ((hb.block _ (blk_lt Q3.out)).trans Q3.out)
  have S4 := Lib.hid (S3.out.below hb)
  clear hb A3 Q3 S3 B3
  go_wp2_with fail
  refine (EB.out w4 B4.out).mono ?_
  rintro e w5 ⟨x5, c5, rfl, hs5, hb⟩
  have B5 := Lib.hid (B4.out.trans (hb.mono B4.out.size))
  have A5 := Lib.hid ((hb.block _ (blk_lt A4.out)).trans A4.out)
  have Q5 := Lib.hid ((hb.block _ (blk_lt Q4.out)).trans Q4.out)
  have S5 := Lib.hid (S4.out.below hb)
  have T5 := Lib.hid hs5
  clear hb hs5 A4 Q4 S4 B4
  go_wp2_with fail
  refine (CP.out w5 B5.out).mono ?_
  rintro e w6 ⟨x6, c6, rfl, ho6, hb⟩
  have B6 := Lib.hid (B5.out.trans (hb.mono B5.out.size))
  have A6 := Lib.hid ((hb.block _ (blk_lt A5.out)).trans A5.out)
  have Q6 := Lib.hid ((hb.block _ (blk_lt Q5.out)).trans Q5.out)
  have S6 := Lib.hid (S5.out.below hb)
  have T6 := Lib.hid (T5.out.below hb)
  have O6 := Lib.hid ho6
  have BO6 := Lib.hid hb
  have OLT : Hid (∀ k, (Value.slice x6 xs.length c6).ownBlock = some k → k < w6.heap.size) := by
    obtain ⟨_, _, ⟨e, _⟩ | ⟨g, cap, cur, e, _, hg, _⟩⟩ := ho6
    · intro k hk; rw [e] at hk; simp [Value.ownBlock] at hk
    · intro k hk; rw [e] at hk; simp [Value.ownBlock] at hk; subst hk; exact blk_lt hg
  clear hb ho6
  go_wp2_with fail
  refine (DC.out _ w6 O6.out.sees).mono ?_
  rintro e w7 ⟨dq, rfl, hq7, hs7, hf7, hb⟩
  have B7 := Lib.hid (B6.out.trans (hb.mono B6.out.size))
  have A7 := Lib.hid ((hb.block _ (blk_lt A6.out)).trans A6.out)
  have Q7 := Lib.hid ((hb.block _ (blk_lt Q6.out)).trans Q6.out)
  have S7 := Lib.hid (S6.out.below hb)
  have T7 := Lib.hid (T6.out.below hb)
  have O7 := Lib.hid (O6.out.below hb)
  have Z67 : Hid (w6.heap.size ≤ w7.heap.size) := hb.size
  have BO7 := Lib.hid (BO6.out.trans (hb.mono BO6.out.size))
  have ic := i26 hq7 dq
  have oc := rc_one (p := decP xs) hs7.one
  obtain ⟨C, hC⟩ : ∃ C, C = (rc (decP xs) dq).toArray := ⟨_, rfl⟩
  obtain ⟨Z, hZ⟩ : ∃ Z, Z = (rc (pz 0) (.slice none 0 0)).toArray := ⟨_, rfl⟩
  have z := z26
  rw [← hZ] at z
  have iz : (Try.prog.info? 26).map (·.size) = some Z.size := by rw [hZ]; exact i26 pz0_ok _
  rw [← hC] at ic oc ⊢
  have IC := Lib.hid ic
  have OC := Lib.hid oc
  have HZ := Lib.hid z
  have IZC : Hid (Z.size = C.size) := Option.some.inj (iz.symm.trans ic)
  obtain ⟨w8, hw8⟩ : ∃ w8, w8 = w7.alloc (.cells C 26) := ⟨_, rfl⟩
  have RN : Hid ((w7.alloc (.cells Z 26)).setRow w7.heap.size C = w8) := by show _ = _; rw [hw8]; exact alloc_setRowT w7 Z C 26 _ rfl
  have GZ : Hid ((w7.alloc (.cells Z 26)).heap[w7.heap.size]? = some (.cells Z 26 (0, 0))) := heap_alloc_new w7 _
  have hb8 : Below w7.heap.size w7 w8 := by rw [hw8]; exact (Below.refl _ _).alloc (Nat.le_refl _) _
  have C8 : Hid (w8.heap[w7.heap.size]? = some (.cells C 26 (0, 0))) := by show _ = _; rw [hw8]; exact heap_alloc_new w7 _
  have B8 := Lib.hid (B7.out.trans (hb8.mono B7.out.size))
  have A8 := Lib.hid ((hb8.block _ (blk_lt A7.out)).trans A7.out)
  have Q8 := Lib.hid ((hb8.block _ (blk_lt Q7.out)).trans Q7.out)
  have S8 := Lib.hid (S7.out.below hb8)
  have T8 := Lib.hid (T7.out.below hb8)
  have O8 := Lib.hid (O7.out.below hb8)
  have D8 := Lib.hid (hs7.below hb8)
  have F7 := Lib.hid hf7
  have HC := Lib.hid hC
  have HQ7 := Lib.hid hq7
  have BO : Hid (Below w5.heap.size w5 w8) := BO7.out.trans (hb8.mono BO7.out.size)
  clear hb hb8 hw8 hC hZ z iz ic oc hq7 hs7 hf7 A6 Q6 S6 T6 O6 B6 A7 Q7 S7 T7 O7 B7 BO6 BO7
  go_upto_region 7 with (first | (refine wpList_alloc_z rfl 26 rfl (HZ.out w7) ?_; refine wpList_store_row rfl 26 (.tmp 12) (.tmp 50) rfl w7.heap.size C rfl rfl 26 Z GZ.out IC.out IZC.out OC.out ?_; rw [RN.out]))
  go_upto_region 8 with (fail)
  go_loopw [14] (fun i wr => ∃ (j : Nat) (zs : List Int), j ≤ xs.length ∧ i = .int .i64 (j : Int) ∧ zs.length = xs.length ∧ Own wr w5.heap.size (.slice x6 xs.length c6) zs ∧ w8.grownBy wr (Value.slice x6 xs.length c6).ownBlock ∧ Below w5.heap.size w5 wr) (fun i _ => xs.length - (intOf i).toNat)
  case atStart => exact ⟨0, xs, by omega, rfl, rfl, O8.out, grownBy_refl _ _, BO.out⟩
  case round =>
    obtain ⟨j, zs, hj, rfl, hzl, hown, hgr, hbc⟩ := hrel
    by_cases hlt : j < xs.length
    · have hii : (j : Int) < (xs.length : Int) := by omega
      obtain ⟨g, rfl, hag, hcell, hfz, hset⟩ := own_set hown (show j < zs.length by omega)
      have hby := hown.1.nth j
      have hx8 := xor8_zero (nth zs j) 255 hby (by decide)
      have hset := hset _ hx8.2
      have HSET := Lib.hid hset
      have HGR := Lib.hid (octetReads.grownBy_trans hgr hset.2)
      have HBC2 := Lib.hid (hbc.setCell (p := ⟨g, j, none⟩) hag (.int .u8 (bits .xor .u8 (nth zs j) 255)))
      have k0 := hby.1
      have k1 := hby.2
      have HZL := Lib.hid hzl
      clear hown hgr hbc hset hx8 hby hzl
      go_wp2_with fail
      go_roundw
      case rel => exact ⟨j + 1, zs.set j (bits .xor .u8 (nth zs j) 255), by omega, by go_num, by rw [List.length_set]; exact HZL.out, HSET.out.1, HGR.out, HBC2.out⟩
      case measure => simp [intOf]; omega
    · have hge : ¬ (j : Int) < (xs.length : Int) := by omega
      have A9 := Lib.hid ((hbc.block _ (blk_lt A5.out)).trans A5.out)
      have Q9 := Lib.hid ((hbc.block _ (blk_lt Q5.out)).trans Q5.out)
      have S9 := Lib.hid (S5.out.below hbc)
      have T9 := Lib.hid (T5.out.below hbc)
      have B9 := Lib.hid (B5.out.trans (hbc.mono B5.out.size))
      have C9 := Lib.hid ((hgr.block _ (blk_lt C8.out) (fun e => by have := OLT.out _ e.symm; have := Z67.out; omega)).trans C8.out)
      have D9 := Lib.hid (D8.out.grown hgr (fun k e e2 => by have := OLT.out _ e; have := F7.out _ e2; omega))
      clear hown hgr hbc hzl A5 Q5 S5 T5 B5 A8 Q8 S8 T8 O8 C8 D8
      go_upto_region 11 with (fail)
      go_wp2_with fail
      refine (DD.out wr B9.out).mono ?_
      rintro e wt ⟨dr, rfl, hq9, hs9, hb⟩
      have B10 := Lib.hid (B9.out.trans (hb.mono B9.out.size))
      have A10 := Lib.hid ((hb.block _ (blk_lt A9.out)).trans A9.out)
      have Q10 := Lib.hid ((hb.block _ (blk_lt Q9.out)).trans Q9.out)
      have C10 := Lib.hid ((hb.block _ (blk_lt C9.out)).trans C9.out)
      have S10 := Lib.hid (S9.out.below hb)
      have T10 := Lib.hid (T9.out.below hb)
      have D10 := Lib.hid (D9.out.below hb)
      have ie := i35 hq9 dr
      have oe := rc_one (p := decP xs) hs9.one
      obtain ⟨E, hE⟩ : ∃ E, E = (rc (decP xs) dr).toArray := ⟨_, rfl⟩
      obtain ⟨Y, hY⟩ : ∃ Y, Y = (rc (pz 0) (.slice none 0 0)).toArray := ⟨_, rfl⟩
      have zy := z35
      rw [← hY] at zy
      have iy : (Try.prog.info? 35).map (·.size) = some Y.size := by rw [hY]; exact i35 pz0_ok _
      rw [← hE] at ie oe ⊢
      have IE := Lib.hid ie
      have OE := Lib.hid oe
      have HY := Lib.hid zy
      have IYE : Hid (Y.size = E.size) := Option.some.inj (iy.symm.trans ie)
      obtain ⟨wu, hwu⟩ : ∃ wu, wu = wt.alloc (.cells E 35) := ⟨_, rfl⟩
      have RE : Hid ((wt.alloc (.cells Y 35)).setRow wt.heap.size E = wu) := by show _ = _; rw [hwu]; exact alloc_setRowT wt Y E 35 _ rfl
      have GY : Hid ((wt.alloc (.cells Y 35)).heap[wt.heap.size]? = some (.cells Y 35 (0, 0))) := heap_alloc_new wt _
      have hbu : Below wt.heap.size wt wu := by rw [hwu]; exact (Below.refl _ _).alloc (Nat.le_refl _) _
      have E11 : Hid (wu.heap[wt.heap.size]? = some (.cells E 35 (0, 0))) := by show _ = _; rw [hwu]; exact heap_alloc_new wt _
      have B11 := Lib.hid (B10.out.trans (hbu.mono B10.out.size))
      have A11 := Lib.hid ((hbu.block _ (blk_lt A10.out)).trans A10.out)
      have Q11 := Lib.hid ((hbu.block _ (blk_lt Q10.out)).trans Q10.out)
      have C11 := Lib.hid ((hbu.block _ (blk_lt C10.out)).trans C10.out)
      have S11 := Lib.hid (S10.out.below hbu)
      have T11 := Lib.hid (T10.out.below hbu)
      have D11 := Lib.hid (D10.out.below hbu)
      have U11 := Lib.hid (hs9.below hbu)
      have HQ9 := Lib.hid hq9
      have HE2 := Lib.hid hE
      clear hb hbu hwu hE hY zy iy ie oe hs9 hq9 A9 Q9 S9 T9 C9 D9 B9 A10 Q10 S10 T10 C10 D10 B10
      have CX : Hid (∀ W, Below wu.heap.size wu W → (convert 24 9 (.slice x3 (encV p).length c3)).run Try.prog W = .ok (.string (strOfNums (encV p))) W) := fun W h => (S11.out.below h).str
      have CY : Hid (∀ W, Below wu.heap.size wu W → (convert 24 9 (.slice x5 (encV p).length c5)).run Try.prog W = .ok (.string (strOfNums (encV p))) W) := fun W h => (T11.out.below h).str
      have BB : Hid (∀ W, Below wu.heap.size wu W → Below w.heap.size w W) := fun W h => B11.out.trans (h.mono B11.out.size)
      have AL : Hid (∀ W, Calls Try.prog 7 #[] W (AliveP W)) := fun W => alive W
      have AP : Hid (∀ W, Below wu.heap.size wu W → Calls Try.prog 10 #[.agg A] W fun e w' => e = .returned (.agg A) ∧ Below W.heap.size W w') := fun W h => AA.out W (BB.out W h)
      have AQ : Hid (∀ W, Below wu.heap.size wu W → Calls Try.prog 10 #[.agg B] W fun e w' => e = .returned (.agg B) ∧ Below W.heap.size W w') := fun W h => by rw [HB.out]; exact asC HQ.out du W (HE.out.below (BB.out W h))
      have AC : Hid (∀ W, Below wu.heap.size wu W → Calls Try.prog 10 #[.agg C] W fun e w' => e = .returned (.agg C) ∧ Below W.heap.size W w') := fun W h => by rw [HC.out]; exact asC HQ7.out dq W (D11.out.below h)
      have SD : Hid (∀ W, Below wu.heap.size wu W → Calls Try.prog 14 #[.agg C, .agg E] W fun e w' => e = .returned (.bool true) ∧ Below W.heap.size W w') := fun W h => by
        have hh := sameD HQ7.out HQ9.out dq dr W (D11.out.below h) (U11.out.below h)
        rw [sameB_refl] at hh
        rw [HC.out, HE2.out]
        exact hh
      have R1 : Hid (∀ W, Below wu.heap.size wu W → Calls Try.prog 15 #[.agg A] W fun e w' => e = .returned (.bool (rightQ p)) ∧ Below W.heap.size W w') := fun W h => by rw [HA.out]; exact rightC HP.out H5.out dv W (HD.out.below (BB.out W h))
      have R2 : Hid (∀ W, Below wu.heap.size wu W → Calls Try.prog 16 #[.agg A] W fun e w' => e = .returned (.bool (rightQ p)) ∧ Below W.heap.size W w') := fun W h => by
        have hh := rightD HP.out dv W (HD.out.below (BB.out W h))
        rw [ref_right HP.out HD.out.1 H5.out] at hh
        rw [HA.out]
        exact hh
      have S1 : Hid (∀ W, Below wu.heap.size wu W → Calls Try.prog 17 #[.agg A, .agg B] W fun e w' => e = .returned (.bool (sameB p q)) ∧ Below W.heap.size W w') := fun W h => by rw [HA.out, HB.out]; exact sameC HP.out HQ.out dv du W (HD.out.below (BB.out W h)) (HE.out.below (BB.out W h))
      have S2 : Hid (∀ W, Below wu.heap.size wu W → Calls Try.prog 14 #[.agg A, .agg B] W fun e w' => e = .returned (.bool (sameB p q)) ∧ Below W.heap.size W w') := fun W h => by rw [HA.out, HB.out]; exact sameD HP.out HQ.out dv du W (HD.out.below (BB.out W h)) (HE.out.below (BB.out W h))
      obtain ⟨bk, hbk⟩ : ∃ bk, bk = blkI p := ⟨_, rfl⟩
      have BL : Hid (∀ W, Below wu.heap.size wu W → Calls Try.prog 18 #[.agg A] W fun e w' => e = .returned (.int .i64 bk) ∧ Below W.heap.size W w') := fun W h => by rw [HA.out, hbk]; exact blocks HP.out dv W (HD.out.below (BB.out W h))
      have IBF : Hid ((Try.prog.info? 26).map (·.size) = some B.size) := ib.out
      have CK0 := (CD.out wu A11.out).2.1
      have CK5 := (CD.out wu A11.out).2.2
      have CK137 := (CD.out wu A11.out).1
      have cc : p.c = p.c := rfl
      have hi64 : i64 p.c := HP.out.c
      have HBK := Lib.hid hbk
      have KC : Hid (p.k = 3 → bk = p.c) := fun h => by rw [HBK.out]; exact blk3 h
      have KC5 : Hid (p.k = 5 → bk = p.c) := fun h => by rw [HBK.out]; exact blk5 h
      have KC4 : Hid (p.k = 4 → bk = ((p.d.length / 512 : Nat) : Int)) := fun h => by rw [HBK.out]; exact blk4 h
      have KC0 : Hid (p.k ≠ 3 → p.k ≠ 4 → p.k ≠ 5 → bk = 0) := fun h1 h2 h3 => by rw [HBK.out]; exact blk0 h1 h2 h3
      clear hbk HBK cc S11 T11 D11 U11 EA EB CP DC DD HA HB HC HE2 HP HD HQ HE HQ7 HQ9 H5 H6 HX5 CD AA
      generalize strOfNums (encV p) = SX at CX CY
      generalize rightQ p = rb at R1 R2
      generalize sameB p q = sb at S1 S2
      generalize p.d.length = nd at *
      generalize p.c = pc at *
      generalize p.k = pk at *
      go_upto_region 12 with (first | (refine wpList_alloc_z rfl 35 rfl (HY.out wt) ?_; refine wpList_store_row rfl 35 (.tmp 15) (.tmp 69) rfl wt.heap.size E rfl rfl 35 Y GY.out IE.out IYE.out OE.out ?_; rw [RE.out]))
      by_cases h3 : pk = 3
      · have e := KC.out h3
        subst h3
        subst e
        clear KC KC5 KC4 KC0
        go_upto_region 17 with (fail)
        clear CK0 CK5 CK137
        refine wp_region_held_drew (S := fun W => Below wu.heap.size wu W ∧ W.heap[w.heap.size]? = some (.cells A 26 (0, 0)) ∧ W.heap[(w.heap.size + 1)]? = some (.cells B 26 (0, 0)) ∧ W.heap[w7.heap.size]? = some (.cells C 26 (0, 0)) ∧ W.heap[wt.heap.size]? = some (.cells E 35 (0, 0))) (by kernel_rfl) (⟨(Below.refl _ _).drew, A11.out, Q11.out, C11.out, E11.out⟩) (fun hS => ?_)
        have hb0 : Below wu.heap.size wu wu.drew := (Below.refl _ _).drew
        clear hb0 
        generalize wu.drew = Was at hS  ⊢
        refine wpAnyH_ready (rs := [0]) (by kernel_rfl) (by simp) ?_
        refine' (AllReadyH.cons ?hoc0a (fun K hK => ?stc0a) AllReadyH.nil)
        case hoc0a => (simp only [List.getElem?_toArray, List.getElem?_cons_zero]; rfl)
        go_simp
        refine (AL.out Was).mono ?_
        rintro e Wax0 ⟨rfl, hb⟩
        go_wp2_with fail
        refine hK.out _ _ (⟨hS.1.trans (hb.mono hS.1.size), (hb.block _ (blk_lt hS.2.1)).trans hS.2.1, (hb.block _ (blk_lt hS.2.2.1)).trans hS.2.2.1, (hb.block _ (blk_lt hS.2.2.2.1)).trans hS.2.2.2.1, (hb.block _ (blk_lt hS.2.2.2.2)).trans hS.2.2.2.2⟩) (fun hHeld => ?_)
        clear hK K
        try simp only [Act.put, List.setIfInBounds_toArray, List.set_cons_succ, List.set_cons_zero]
        clear hS
        have hS := hHeld
        clear hHeld
        clear hb
        refine' wpAnyH_take (i := 1) ?h1x1ax0 ?hsx1ax0 ?hfx1ax0 ?hrx1ax0 ?hQx1ax0 (Or.inl ⟨?hwx1ax0, ?hyx1ax0⟩) hS ?restx1ax0
        case h1x1ax0 => (simp only [List.getElem?_toArray, List.getElem?_cons_succ, List.getElem?_cons_zero]; rfl)
        case hsx1ax0 => kernel_rfl
        case hfx1ax0 => kernel_rfl
        case hrx1ax0 => kernel_rfl
        case hQx1ax0 => exact fun _ _ _ h => h
        case hwx1ax0 => rfl
        case hyx1ax0 =>
          intro W hW
          go_simp
          try with_reducible rfl
        simp only [Act.put, List.setIfInBounds_toArray, List.set_cons_succ, List.set_cons_zero]
        refine' wpAnyH_take (i := 2) ?h1x2ax0 ?hsx2ax0 ?hfx2ax0 ?hrx2ax0 ?hQx2ax0 (Or.inl ⟨?hwx2ax0, ?hyx2ax0⟩) hS ?restx2ax0
        case h1x2ax0 => (simp only [List.getElem?_toArray, List.getElem?_cons_succ, List.getElem?_cons_zero]; rfl)
        case hsx2ax0 => kernel_rfl
        case hfx2ax0 => kernel_rfl
        case hrx2ax0 => kernel_rfl
        case hQx2ax0 => exact fun _ _ _ h => h
        case hwx2ax0 => rfl
        case hyx2ax0 =>
          intro W hW
          go_simp
          try with_reducible rfl
        simp only [Act.put, List.setIfInBounds_toArray, List.set_cons_succ, List.set_cons_zero]
        refine' wpAnyH_take (i := 3) ?h1x3ax0 ?hsx3ax0 ?hfx3ax0 ?hrx3ax0 ?hQx3ax0 (Or.inl ⟨?hwx3ax0, ?hyx3ax0⟩) hS ?restx3ax0
        case h1x3ax0 => (simp only [List.getElem?_toArray, List.getElem?_cons_succ, List.getElem?_cons_zero]; rfl)
        case hsx3ax0 => kernel_rfl
        case hfx3ax0 => kernel_rfl
        case hrx3ax0 => kernel_rfl
        case hQx3ax0 => exact fun _ _ _ h => h
        case hwx3ax0 => rfl
        case hyx3ax0 =>
          intro W hW
          have dd := CX.out W hW.1
          go_simp
          try with_reducible rfl
        simp only [Act.put, List.setIfInBounds_toArray, List.set_cons_succ, List.set_cons_zero]
        refine' wpAnyH_take (i := 4) ?h1x4ax0 ?hsx4ax0 ?hfx4ax0 ?hrx4ax0 ?hQx4ax0 (Or.inl ⟨?hwx4ax0, ?hyx4ax0⟩) hS ?restx4ax0
        case h1x4ax0 => (simp only [List.getElem?_toArray, List.getElem?_cons_succ, List.getElem?_cons_zero]; rfl)
        case hsx4ax0 => kernel_rfl
        case hfx4ax0 => kernel_rfl
        case hrx4ax0 => kernel_rfl
        case hQx4ax0 => exact fun _ _ _ h => h
        case hwx4ax0 => rfl
        case hyx4ax0 =>
          intro W hW
          go_simp
          try with_reducible rfl
        simp only [Act.put, List.setIfInBounds_toArray, List.set_cons_succ, List.set_cons_zero]
        refine' wpAnyH_take (i := 5) ?h1x5ax0 ?hsx5ax0 ?hfx5ax0 ?hrx5ax0 ?hQx5ax0 (Or.inl ⟨?hwx5ax0, ?hyx5ax0⟩) hS ?restx5ax0
        case h1x5ax0 => (simp only [List.getElem?_toArray, List.getElem?_cons_succ, List.getElem?_cons_zero]; rfl)
        case hsx5ax0 => kernel_rfl
        case hfx5ax0 => kernel_rfl
        case hrx5ax0 => kernel_rfl
        case hQx5ax0 => exact fun _ _ _ h => h
        case hwx5ax0 => rfl
        case hyx5ax0 =>
          intro W hW
          have dd := CY.out W hW.1
          go_simp
          try with_reducible rfl
        simp only [Act.put, List.setIfInBounds_toArray, List.set_cons_succ, List.set_cons_zero]
        refine' wpAnyH_take (i := 6) ?h1x6ax0 ?hsx6ax0 ?hfx6ax0 ?hrx6ax0 ?hQx6ax0 (Or.inl ⟨?hwx6ax0, ?hyx6ax0⟩) hS ?restx6ax0
        case h1x6ax0 => (simp only [List.getElem?_toArray, List.getElem?_cons_succ, List.getElem?_cons_zero]; rfl)
        case hsx6ax0 => kernel_rfl
        case hfx6ax0 => kernel_rfl
        case hrx6ax0 => kernel_rfl
        case hQx6ax0 => exact fun _ _ _ h => h
        case hwx6ax0 => rfl
        case hyx6ax0 =>
          intro W hW
          go_simp
          try with_reducible rfl
        simp only [Act.put, List.setIfInBounds_toArray, List.set_cons_succ, List.set_cons_zero]
        refine' wpAnyH_take (i := 7) ?h1x7ax0 ?hsx7ax0 ?hfx7ax0 ?hrx7ax0 ?hQx7ax0 (Or.inl ⟨?hwx7ax0, ?hyx7ax0⟩) hS ?restx7ax0
        case h1x7ax0 => (simp only [List.getElem?_toArray, List.getElem?_cons_succ, List.getElem?_cons_zero]; rfl)
        case hsx7ax0 => kernel_rfl
        case hfx7ax0 => kernel_rfl
        case hrx7ax0 => kernel_rfl
        case hQx7ax0 => exact fun _ _ _ h => h
        case hwx7ax0 => rfl
        case hyx7ax0 =>
          intro W hW
          go_simp
          try with_reducible rfl
        simp only [Act.put, List.setIfInBounds_toArray, List.set_cons_succ, List.set_cons_zero]
        refine' wpAnyH_take (i := 8) ?h1x8ax0 ?hsx8ax0 ?hfx8ax0 ?hrx8ax0 ?hQx8ax0 (Or.inl ⟨?hwx8ax0, ?hyx8ax0⟩) hS ?restx8ax0
        case h1x8ax0 => (simp only [List.getElem?_toArray, List.getElem?_cons_succ, List.getElem?_cons_zero]; rfl)
        case hsx8ax0 => kernel_rfl
        case hfx8ax0 => kernel_rfl
        case hrx8ax0 => kernel_rfl
        case hQx8ax0 => exact fun _ _ _ h => h
        case hwx8ax0 => rfl
        case hyx8ax0 =>
          intro W hW
          go_simp
          try with_reducible rfl
        simp only [Act.put, List.setIfInBounds_toArray, List.set_cons_succ, List.set_cons_zero]
        refine' wpAnyH_take (i := 9) ?h1x9ax0 ?hsx9ax0 ?hfx9ax0 ?hrx9ax0 ?hQx9ax0 (Or.inl ⟨?hwx9ax0, ?hyx9ax0⟩) hS ?restx9ax0
        case h1x9ax0 => (simp only [List.getElem?_toArray, List.getElem?_cons_succ, List.getElem?_cons_zero]; rfl)
        case hsx9ax0 => kernel_rfl
        case hfx9ax0 => kernel_rfl
        case hrx9ax0 => kernel_rfl
        case hQx9ax0 => exact fun _ _ _ h => h
        case hwx9ax0 => rfl
        case hyx9ax0 =>
          intro W hW
          go_simp
          try with_reducible rfl
        simp only [Act.put, List.setIfInBounds_toArray, List.set_cons_succ, List.set_cons_zero]
        refine' wpAnyH_take (i := 10) ?h1x10ax0 ?hsx10ax0 ?hfx10ax0 ?hrx10ax0 ?hQx10ax0 (Or.inl ⟨?hwx10ax0, ?hyx10ax0⟩) hS ?restx10ax0
        case h1x10ax0 => (simp only [List.getElem?_toArray, List.getElem?_cons_succ, List.getElem?_cons_zero]; rfl)
        case hsx10ax0 => kernel_rfl
        case hfx10ax0 => kernel_rfl
        case hrx10ax0 => kernel_rfl
        case hQx10ax0 => exact fun _ _ _ h => h
        case hwx10ax0 => rfl
        case hyx10ax0 =>
          intro W hW
          go_simp
          try with_reducible rfl
        simp only [Act.put, List.setIfInBounds_toArray, List.set_cons_succ, List.set_cons_zero]
        refine' wpAnyH_take (i := 11) ?h1x11ax0 ?hsx11ax0 ?hfx11ax0 ?hrx11ax0 ?hQx11ax0 (Or.inl ⟨?hwx11ax0, ?hyx11ax0⟩) hS ?restx11ax0
        case h1x11ax0 => (simp only [List.getElem?_toArray, List.getElem?_cons_succ, List.getElem?_cons_zero]; rfl)
        case hsx11ax0 => kernel_rfl
        case hfx11ax0 => kernel_rfl
        case hrx11ax0 => kernel_rfl
        case hQx11ax0 => exact fun _ _ _ h => h
        case hwx11ax0 => rfl
        case hyx11ax0 =>
          intro W hW
          go_simp
          try with_reducible rfl
        simp only [Act.put, List.setIfInBounds_toArray, List.set_cons_succ, List.set_cons_zero]
        refine' wpAnyH_take (i := 12) ?h1x12ax0 ?hsx12ax0 ?hfx12ax0 ?hrx12ax0 ?hQx12ax0 (Or.inl ⟨?hwx12ax0, ?hyx12ax0⟩) hS ?restx12ax0
        case h1x12ax0 => (simp only [List.getElem?_toArray, List.getElem?_cons_succ, List.getElem?_cons_zero]; rfl)
        case hsx12ax0 => kernel_rfl
        case hfx12ax0 => kernel_rfl
        case hrx12ax0 => kernel_rfl
        case hQx12ax0 => exact fun _ _ _ h => h
        case hwx12ax0 => rfl
        case hyx12ax0 =>
          intro W hW
          go_simp
          try with_reducible rfl
        simp only [Act.put, List.setIfInBounds_toArray, List.set_cons_succ, List.set_cons_zero]
        refine' wpAnyH_take (i := 13) ?h1x13ax0 ?hsx13ax0 ?hfx13ax0 ?hrx13ax0 ?hQx13ax0 (Or.inl ⟨?hwx13ax0, ?hyx13ax0⟩) hS ?restx13ax0
        case h1x13ax0 => (simp only [List.getElem?_toArray, List.getElem?_cons_succ, List.getElem?_cons_zero]; rfl)
        case hsx13ax0 => kernel_rfl
        case hfx13ax0 => kernel_rfl
        case hrx13ax0 => kernel_rfl
        case hQx13ax0 => exact fun _ _ _ h => h
        case hwx13ax0 => rfl
        case hyx13ax0 =>
          intro W hW
          go_simp
          try with_reducible rfl
        simp only [Act.put, List.setIfInBounds_toArray, List.set_cons_succ, List.set_cons_zero]
        refine' wpAnyH_take (i := 14) ?h1x14ax0 ?hsx14ax0 ?hfx14ax0 ?hrx14ax0 ?hQx14ax0 (yieldsIf_load_at ?hwx14ax0 26 (.tmp 12) ?hopx14ax0 w7.heap.size 0 rfl C _ (fun W hW => range_row hW.2.2.2.1) Try.underlying26 rfl ?hix14ax0) hS ?restx14ax0
        case h1x14ax0 => (simp only [List.getElem?_toArray, List.getElem?_cons_succ, List.getElem?_cons_zero]; rfl)
        case hopx14ax0 => rfl
        case hsx14ax0 => kernel_rfl
        case hfx14ax0 => kernel_rfl
        case hrx14ax0 => kernel_rfl
        case hQx14ax0 => exact fun _ _ _ h => h
        case hwx14ax0 => rfl
        case hix14ax0 => exact IC.out
        simp only [Act.put, List.setIfInBounds_toArray, List.set_cons_succ, List.set_cons_zero]
        refine' wpAnyH_take (i := 16) ?h1x16ax0 ?hsx16ax0 ?hfx16ax0 ?hrx16ax0 ?hQx16ax0 (yieldsIf_load_at ?hwx16ax0 35 (.tmp 15) ?hopx16ax0 wt.heap.size 0 rfl E _ (fun W hW => range_row hW.2.2.2.2) Try.underlying35 rfl ?hix16ax0) hS ?restx16ax0
        case h1x16ax0 => (simp only [List.getElem?_toArray, List.getElem?_cons_succ, List.getElem?_cons_zero]; rfl)
        case hopx16ax0 => rfl
        case hsx16ax0 => kernel_rfl
        case hfx16ax0 => kernel_rfl
        case hrx16ax0 => kernel_rfl
        case hQx16ax0 => exact fun _ _ _ h => h
        case hwx16ax0 => rfl
        case hix16ax0 => exact IE.out
        simp only [Act.put, List.setIfInBounds_toArray, List.set_cons_succ, List.set_cons_zero]
        refine wpAnyH_ready (rs := [15]) (by kernel_rfl) (by simp) ?_
        refine' (AllReadyH.cons ?hoc15ax0 (fun K hK => ?stc15ax0) AllReadyH.nil)
        case hoc15ax0 => (simp only [List.getElem?_toArray, List.getElem?_cons_succ, List.getElem?_cons_zero]; rfl)
        go_simp
        refine (AC.out Wax0 hS.1).mono ?_
        rintro e Wax0x15 ⟨rfl, hb⟩
        go_wp2_with fail
        refine hK.out _ _ (⟨hS.1.trans (hb.mono hS.1.size), (hb.block _ (blk_lt hS.2.1)).trans hS.2.1, (hb.block _ (blk_lt hS.2.2.1)).trans hS.2.2.1, (hb.block _ (blk_lt hS.2.2.2.1)).trans hS.2.2.2.1, (hb.block _ (blk_lt hS.2.2.2.2)).trans hS.2.2.2.2⟩) (fun hHeld => ?_)
        clear hK K
        try simp only [Act.put, List.setIfInBounds_toArray, List.set_cons_succ, List.set_cons_zero]
        clear hS
        have hS := hHeld
        clear hHeld
        clear hb
        refine wpAnyH_ready (rs := [17]) (by kernel_rfl) (by simp) ?_
        refine' (AllReadyH.cons ?hoc17ax0x15 (fun K hK => ?stc17ax0x15) AllReadyH.nil)
        case hoc17ax0x15 => (simp only [List.getElem?_toArray, List.getElem?_cons_succ, List.getElem?_cons_zero]; rfl)
        go_simp
        refine (SD.out Wax0x15 hS.1).mono ?_
        rintro e Wax0x15x17 ⟨rfl, hb⟩
        go_wp2_with fail
        refine hK.out _ _ (⟨hS.1.trans (hb.mono hS.1.size), (hb.block _ (blk_lt hS.2.1)).trans hS.2.1, (hb.block _ (blk_lt hS.2.2.1)).trans hS.2.2.1, (hb.block _ (blk_lt hS.2.2.2.1)).trans hS.2.2.2.1, (hb.block _ (blk_lt hS.2.2.2.2)).trans hS.2.2.2.2⟩) (fun hHeld => ?_)
        clear hK K
        try simp only [Act.put, List.setIfInBounds_toArray, List.set_cons_succ, List.set_cons_zero]
        clear hS
        have hS := hHeld
        clear hHeld
        clear hb
        refine' wpAnyH_take (i := 18) ?h1x18ax0x15x17 ?hsx18ax0x15x17 ?hfx18ax0x15x17 ?hrx18ax0x15x17 ?hQx18ax0x15x17 (Or.inl ⟨?hwx18ax0x15x17, ?hyx18ax0x15x17⟩) hS ?restx18ax0x15x17
        case h1x18ax0x15x17 => (simp only [List.getElem?_toArray, List.getElem?_cons_succ, List.getElem?_cons_zero]; rfl)
        case hsx18ax0x15x17 => kernel_rfl
        case hfx18ax0x15x17 => kernel_rfl
        case hrx18ax0x15x17 => kernel_rfl
        case hQx18ax0x15x17 => exact fun _ _ _ h => h
        case hwx18ax0x15x17 => rfl
        case hyx18ax0x15x17 =>
          intro W hW
          go_simp
          try with_reducible rfl
        simp only [Act.put, List.setIfInBounds_toArray, List.set_cons_succ, List.set_cons_zero]
        refine' wpAnyH_take (i := 19) ?h1x19ax0x15x17 ?hsx19ax0x15x17 ?hfx19ax0x15x17 ?hrx19ax0x15x17 ?hQx19ax0x15x17 (Or.inl ⟨?hwx19ax0x15x17, ?hyx19ax0x15x17⟩) hS ?restx19ax0x15x17
        case h1x19ax0x15x17 => (simp only [List.getElem?_toArray, List.getElem?_cons_succ, List.getElem?_cons_zero]; rfl)
        case hsx19ax0x15x17 => kernel_rfl
        case hfx19ax0x15x17 => kernel_rfl
        case hrx19ax0x15x17 => kernel_rfl
        case hQx19ax0x15x17 => exact fun _ _ _ h => h
        case hwx19ax0x15x17 => rfl
        case hyx19ax0x15x17 =>
          intro W hW
          go_simp
          try with_reducible rfl
        simp only [Act.put, List.setIfInBounds_toArray, List.set_cons_succ, List.set_cons_zero]
        refine' wpAnyH_take (i := 20) ?h1x20ax0x15x17 ?hsx20ax0x15x17 ?hfx20ax0x15x17 ?hrx20ax0x15x17 ?hQx20ax0x15x17 (Or.inl ⟨?hwx20ax0x15x17, ?hyx20ax0x15x17⟩) hS ?restx20ax0x15x17
        case h1x20ax0x15x17 => (simp only [List.getElem?_toArray, List.getElem?_cons_succ, List.getElem?_cons_zero]; rfl)
        case hsx20ax0x15x17 => kernel_rfl
        case hfx20ax0x15x17 => kernel_rfl
        case hrx20ax0x15x17 => kernel_rfl
        case hQx20ax0x15x17 => exact fun _ _ _ h => h
        case hwx20ax0x15x17 => rfl
        case hyx20ax0x15x17 =>
          intro W hW
          go_simp
          try with_reducible rfl
        simp only [Act.put, List.setIfInBounds_toArray, List.set_cons_succ, List.set_cons_zero]
        refine' wpAnyH_take (i := 21) ?h1x21ax0x15x17 ?hsx21ax0x15x17 ?hfx21ax0x15x17 ?hrx21ax0x15x17 ?hQx21ax0x15x17 (Or.inl ⟨?hwx21ax0x15x17, ?hyx21ax0x15x17⟩) hS ?restx21ax0x15x17
        case h1x21ax0x15x17 => (simp only [List.getElem?_toArray, List.getElem?_cons_succ, List.getElem?_cons_zero]; rfl)
        case hsx21ax0x15x17 => kernel_rfl
        case hfx21ax0x15x17 => kernel_rfl
        case hrx21ax0x15x17 => kernel_rfl
        case hQx21ax0x15x17 => exact fun _ _ _ h => h
        case hwx21ax0x15x17 => rfl
        case hyx21ax0x15x17 =>
          intro W hW
          go_simp
          try with_reducible rfl
        simp only [Act.put, List.setIfInBounds_toArray, List.set_cons_succ, List.set_cons_zero]
        refine' wpAnyH_take (i := 22) ?h1x22ax0x15x17 ?hsx22ax0x15x17 ?hfx22ax0x15x17 ?hrx22ax0x15x17 ?hQx22ax0x15x17 (Or.inl ⟨?hwx22ax0x15x17, ?hyx22ax0x15x17⟩) hS ?restx22ax0x15x17
        case h1x22ax0x15x17 => (simp only [List.getElem?_toArray, List.getElem?_cons_succ, List.getElem?_cons_zero]; rfl)
        case hsx22ax0x15x17 => kernel_rfl
        case hfx22ax0x15x17 => kernel_rfl
        case hrx22ax0x15x17 => kernel_rfl
        case hQx22ax0x15x17 => exact fun _ _ _ h => h
        case hwx22ax0x15x17 => rfl
        case hyx22ax0x15x17 =>
          intro W hW
          go_simp
          try with_reducible rfl
        simp only [Act.put, List.setIfInBounds_toArray, List.set_cons_succ, List.set_cons_zero]
        refine' wpAnyH_take (i := 23) ?h1x23ax0x15x17 ?hsx23ax0x15x17 ?hfx23ax0x15x17 ?hrx23ax0x15x17 ?hQx23ax0x15x17 (Or.inl ⟨?hwx23ax0x15x17, ?hyx23ax0x15x17⟩) hS ?restx23ax0x15x17
        case h1x23ax0x15x17 => (simp only [List.getElem?_toArray, List.getElem?_cons_succ, List.getElem?_cons_zero]; rfl)
        case hsx23ax0x15x17 => kernel_rfl
        case hfx23ax0x15x17 => kernel_rfl
        case hrx23ax0x15x17 => kernel_rfl
        case hQx23ax0x15x17 => exact fun _ _ _ h => h
        case hwx23ax0x15x17 => rfl
        case hyx23ax0x15x17 =>
          intro W hW
          go_simp
          try with_reducible rfl
        simp only [Act.put, List.setIfInBounds_toArray, List.set_cons_succ, List.set_cons_zero]
        refine' wpAnyH_take (i := 24) ?h1x24ax0x15x17 ?hsx24ax0x15x17 ?hfx24ax0x15x17 ?hrx24ax0x15x17 ?hQx24ax0x15x17 (Or.inl ⟨?hwx24ax0x15x17, ?hyx24ax0x15x17⟩) hS ?restx24ax0x15x17
        case h1x24ax0x15x17 => (simp only [List.getElem?_toArray, List.getElem?_cons_succ, List.getElem?_cons_zero]; rfl)
        case hsx24ax0x15x17 => kernel_rfl
        case hfx24ax0x15x17 => kernel_rfl
        case hrx24ax0x15x17 => kernel_rfl
        case hQx24ax0x15x17 => exact fun _ _ _ h => h
        case hwx24ax0x15x17 => rfl
        case hyx24ax0x15x17 =>
          intro W hW
          go_simp
          try with_reducible rfl
        simp only [Act.put, List.setIfInBounds_toArray, List.set_cons_succ, List.set_cons_zero]
        refine' wpAnyH_take (i := 25) ?h1x25ax0x15x17 ?hsx25ax0x15x17 ?hfx25ax0x15x17 ?hrx25ax0x15x17 ?hQx25ax0x15x17 (yieldsIf_load_at ?hwx25ax0x15x17 26 (.tmp 3) ?hopx25ax0x15x17 w.heap.size 0 rfl A _ (fun W hW => range_row hW.2.1) Try.underlying26 rfl ?hix25ax0x15x17) hS ?restx25ax0x15x17
        case h1x25ax0x15x17 => (simp only [List.getElem?_toArray, List.getElem?_cons_succ, List.getElem?_cons_zero]; rfl)
        case hopx25ax0x15x17 => rfl
        case hsx25ax0x15x17 => kernel_rfl
        case hfx25ax0x15x17 => kernel_rfl
        case hrx25ax0x15x17 => kernel_rfl
        case hQx25ax0x15x17 => exact fun _ _ _ h => h
        case hwx25ax0x15x17 => rfl
        case hix25ax0x15x17 => exact ia.out
        simp only [Act.put, List.setIfInBounds_toArray, List.set_cons_succ, List.set_cons_zero]
        refine' wpAnyH_take (i := 27) ?h1x27ax0x15x17 ?hsx27ax0x15x17 ?hfx27ax0x15x17 ?hrx27ax0x15x17 ?hQx27ax0x15x17 (yieldsIf_load_at ?hwx27ax0x15x17 26 (.tmp 3) ?hopx27ax0x15x17 w.heap.size 0 rfl A _ (fun W hW => range_row hW.2.1) Try.underlying26 rfl ?hix27ax0x15x17) hS ?restx27ax0x15x17
        case h1x27ax0x15x17 => (simp only [List.getElem?_toArray, List.getElem?_cons_succ, List.getElem?_cons_zero]; rfl)
        case hopx27ax0x15x17 => rfl
        case hsx27ax0x15x17 => kernel_rfl
        case hfx27ax0x15x17 => kernel_rfl
        case hrx27ax0x15x17 => kernel_rfl
        case hQx27ax0x15x17 => exact fun _ _ _ h => h
        case hwx27ax0x15x17 => rfl
        case hix27ax0x15x17 => exact ia.out
        simp only [Act.put, List.setIfInBounds_toArray, List.set_cons_succ, List.set_cons_zero]
        refine wpAnyH_ready (rs := [26]) (by kernel_rfl) (by simp) ?_
        refine' (AllReadyH.cons ?hoc26ax0x15x17 (fun K hK => ?stc26ax0x15x17) AllReadyH.nil)
        case hoc26ax0x15x17 => (simp only [List.getElem?_toArray, List.getElem?_cons_succ, List.getElem?_cons_zero]; rfl)
        go_simp
        refine (R1.out Wax0x15x17 hS.1).mono ?_
        rintro e Wax0x15x17x26 ⟨rfl, hb⟩
        go_wp2_with fail
        refine hK.out _ _ (⟨hS.1.trans (hb.mono hS.1.size), (hb.block _ (blk_lt hS.2.1)).trans hS.2.1, (hb.block _ (blk_lt hS.2.2.1)).trans hS.2.2.1, (hb.block _ (blk_lt hS.2.2.2.1)).trans hS.2.2.2.1, (hb.block _ (blk_lt hS.2.2.2.2)).trans hS.2.2.2.2⟩) (fun hHeld => ?_)
        clear hK K
        try simp only [Act.put, List.setIfInBounds_toArray, List.set_cons_succ, List.set_cons_zero]
        clear hS
        have hS := hHeld
        clear hHeld
        clear hb
        refine wpAnyH_ready (rs := [28]) (by kernel_rfl) (by simp) ?_
        refine' (AllReadyH.cons ?hoc28ax0x15x17x26 (fun K hK => ?stc28ax0x15x17x26) AllReadyH.nil)
        case hoc28ax0x15x17x26 => (simp only [List.getElem?_toArray, List.getElem?_cons_succ, List.getElem?_cons_zero]; rfl)
        go_simp
        refine (AP.out Wax0x15x17x26 hS.1).mono ?_
        rintro e Wax0x15x17x26x28 ⟨rfl, hb⟩
        go_wp2_with fail
        refine hK.out _ _ (⟨hS.1.trans (hb.mono hS.1.size), (hb.block _ (blk_lt hS.2.1)).trans hS.2.1, (hb.block _ (blk_lt hS.2.2.1)).trans hS.2.2.1, (hb.block _ (blk_lt hS.2.2.2.1)).trans hS.2.2.2.1, (hb.block _ (blk_lt hS.2.2.2.2)).trans hS.2.2.2.2⟩) (fun hHeld => ?_)
        clear hK K
        try simp only [Act.put, List.setIfInBounds_toArray, List.set_cons_succ, List.set_cons_zero]
        clear hS
        have hS := hHeld
        clear hHeld
        clear hb
        refine wpAnyH_ready (rs := [29]) (by kernel_rfl) (by simp) ?_
        refine' (AllReadyH.cons ?hoc29ax0x15x17x26x28 (fun K hK => ?stc29ax0x15x17x26x28) AllReadyH.nil)
        case hoc29ax0x15x17x26x28 => (simp only [List.getElem?_toArray, List.getElem?_cons_succ, List.getElem?_cons_zero]; rfl)
        go_simp
        refine (R2.out Wax0x15x17x26x28 hS.1).mono ?_
        rintro e Wax0x15x17x26x28x29 ⟨rfl, hb⟩
        go_wp2_with fail
        refine hK.out _ _ (⟨hS.1.trans (hb.mono hS.1.size), (hb.block _ (blk_lt hS.2.1)).trans hS.2.1, (hb.block _ (blk_lt hS.2.2.1)).trans hS.2.2.1, (hb.block _ (blk_lt hS.2.2.2.1)).trans hS.2.2.2.1, (hb.block _ (blk_lt hS.2.2.2.2)).trans hS.2.2.2.2⟩) (fun hHeld => ?_)
        clear hK K
        try simp only [Act.put, List.setIfInBounds_toArray, List.set_cons_succ, List.set_cons_zero]
        clear hS
        have hS := hHeld
        clear hHeld
        clear hb
        refine' wpAnyH_take (i := 30) ?h1x30ax0x15x17x26x28x29 ?hsx30ax0x15x17x26x28x29 ?hfx30ax0x15x17x26x28x29 ?hrx30ax0x15x17x26x28x29 ?hQx30ax0x15x17x26x28x29 (Or.inl ⟨?hwx30ax0x15x17x26x28x29, ?hyx30ax0x15x17x26x28x29⟩) hS ?restx30ax0x15x17x26x28x29
        case h1x30ax0x15x17x26x28x29 => (simp only [List.getElem?_toArray, List.getElem?_cons_succ, List.getElem?_cons_zero]; rfl)
        case hsx30ax0x15x17x26x28x29 => kernel_rfl
        case hfx30ax0x15x17x26x28x29 => kernel_rfl
        case hrx30ax0x15x17x26x28x29 => kernel_rfl
        case hQx30ax0x15x17x26x28x29 => exact fun _ _ _ h => h
        case hwx30ax0x15x17x26x28x29 => rfl
        case hyx30ax0x15x17x26x28x29 =>
          intro W hW
          go_simp
          try with_reducible rfl
        simp only [Act.put, List.setIfInBounds_toArray, List.set_cons_succ, List.set_cons_zero]
        refine' wpAnyH_take (i := 31) ?h1x31ax0x15x17x26x28x29 ?hsx31ax0x15x17x26x28x29 ?hfx31ax0x15x17x26x28x29 ?hrx31ax0x15x17x26x28x29 ?hQx31ax0x15x17x26x28x29 (Or.inl ⟨?hwx31ax0x15x17x26x28x29, ?hyx31ax0x15x17x26x28x29⟩) hS ?restx31ax0x15x17x26x28x29
        case h1x31ax0x15x17x26x28x29 => (simp only [List.getElem?_toArray, List.getElem?_cons_succ, List.getElem?_cons_zero]; rfl)
        case hsx31ax0x15x17x26x28x29 => kernel_rfl
        case hfx31ax0x15x17x26x28x29 => kernel_rfl
        case hrx31ax0x15x17x26x28x29 => kernel_rfl
        case hQx31ax0x15x17x26x28x29 => exact fun _ _ _ h => h
        case hwx31ax0x15x17x26x28x29 => rfl
        case hyx31ax0x15x17x26x28x29 =>
          intro W hW
          go_simp
          try with_reducible rfl
        simp only [Act.put, List.setIfInBounds_toArray, List.set_cons_succ, List.set_cons_zero]
        refine' wpAnyH_take (i := 32) ?h1x32ax0x15x17x26x28x29 ?hsx32ax0x15x17x26x28x29 ?hfx32ax0x15x17x26x28x29 ?hrx32ax0x15x17x26x28x29 ?hQx32ax0x15x17x26x28x29 (Or.inl ⟨?hwx32ax0x15x17x26x28x29, ?hyx32ax0x15x17x26x28x29⟩) hS ?restx32ax0x15x17x26x28x29
        case h1x32ax0x15x17x26x28x29 => (simp only [List.getElem?_toArray, List.getElem?_cons_succ, List.getElem?_cons_zero]; rfl)
        case hsx32ax0x15x17x26x28x29 => kernel_rfl
        case hfx32ax0x15x17x26x28x29 => kernel_rfl
        case hrx32ax0x15x17x26x28x29 => kernel_rfl
        case hQx32ax0x15x17x26x28x29 => exact fun _ _ _ h => h
        case hwx32ax0x15x17x26x28x29 => rfl
        case hyx32ax0x15x17x26x28x29 =>
          intro W hW
          go_simp
          try with_reducible rfl
        simp only [Act.put, List.setIfInBounds_toArray, List.set_cons_succ, List.set_cons_zero]
        refine' wpAnyH_take (i := 33) ?h1x33ax0x15x17x26x28x29 ?hsx33ax0x15x17x26x28x29 ?hfx33ax0x15x17x26x28x29 ?hrx33ax0x15x17x26x28x29 ?hQx33ax0x15x17x26x28x29 (yieldsIf_load_at ?hwx33ax0x15x17x26x28x29 26 (.tmp 3) ?hopx33ax0x15x17x26x28x29 w.heap.size 0 rfl A _ (fun W hW => range_row hW.2.1) Try.underlying26 rfl ?hix33ax0x15x17x26x28x29) hS ?restx33ax0x15x17x26x28x29
        case h1x33ax0x15x17x26x28x29 => (simp only [List.getElem?_toArray, List.getElem?_cons_succ, List.getElem?_cons_zero]; rfl)
        case hopx33ax0x15x17x26x28x29 => rfl
        case hsx33ax0x15x17x26x28x29 => kernel_rfl
        case hfx33ax0x15x17x26x28x29 => kernel_rfl
        case hrx33ax0x15x17x26x28x29 => kernel_rfl
        case hQx33ax0x15x17x26x28x29 => exact fun _ _ _ h => h
        case hwx33ax0x15x17x26x28x29 => rfl
        case hix33ax0x15x17x26x28x29 => exact ia.out
        simp only [Act.put, List.setIfInBounds_toArray, List.set_cons_succ, List.set_cons_zero]
        refine' wpAnyH_take (i := 34) ?h1x34ax0x15x17x26x28x29 ?hsx34ax0x15x17x26x28x29 ?hfx34ax0x15x17x26x28x29 ?hrx34ax0x15x17x26x28x29 ?hQx34ax0x15x17x26x28x29 (yieldsIf_load_at ?hwx34ax0x15x17x26x28x29 26 (.tmp 4) ?hopx34ax0x15x17x26x28x29 (w.heap.size + 1) 0 rfl B _ (fun W hW => range_row hW.2.2.1) Try.underlying26 rfl ?hix34ax0x15x17x26x28x29) hS ?restx34ax0x15x17x26x28x29
        case h1x34ax0x15x17x26x28x29 => (simp only [List.getElem?_toArray, List.getElem?_cons_succ, List.getElem?_cons_zero]; rfl)
        case hopx34ax0x15x17x26x28x29 => rfl
        case hsx34ax0x15x17x26x28x29 => kernel_rfl
        case hfx34ax0x15x17x26x28x29 => kernel_rfl
        case hrx34ax0x15x17x26x28x29 => kernel_rfl
        case hQx34ax0x15x17x26x28x29 => exact fun _ _ _ h => h
        case hwx34ax0x15x17x26x28x29 => rfl
        case hix34ax0x15x17x26x28x29 => exact ib.out
        simp only [Act.put, List.setIfInBounds_toArray, List.set_cons_succ, List.set_cons_zero]
        refine' wpAnyH_take (i := 36) ?h1x36ax0x15x17x26x28x29 ?hsx36ax0x15x17x26x28x29 ?hfx36ax0x15x17x26x28x29 ?hrx36ax0x15x17x26x28x29 ?hQx36ax0x15x17x26x28x29 (yieldsIf_load_at ?hwx36ax0x15x17x26x28x29 26 (.tmp 3) ?hopx36ax0x15x17x26x28x29 w.heap.size 0 rfl A _ (fun W hW => range_row hW.2.1) Try.underlying26 rfl ?hix36ax0x15x17x26x28x29) hS ?restx36ax0x15x17x26x28x29
        case h1x36ax0x15x17x26x28x29 => (simp only [List.getElem?_toArray, List.getElem?_cons_succ, List.getElem?_cons_zero]; rfl)
        case hopx36ax0x15x17x26x28x29 => rfl
        case hsx36ax0x15x17x26x28x29 => kernel_rfl
        case hfx36ax0x15x17x26x28x29 => kernel_rfl
        case hrx36ax0x15x17x26x28x29 => kernel_rfl
        case hQx36ax0x15x17x26x28x29 => exact fun _ _ _ h => h
        case hwx36ax0x15x17x26x28x29 => rfl
        case hix36ax0x15x17x26x28x29 => exact ia.out
        simp only [Act.put, List.setIfInBounds_toArray, List.set_cons_succ, List.set_cons_zero]
        refine' wpAnyH_take (i := 38) ?h1x38ax0x15x17x26x28x29 ?hsx38ax0x15x17x26x28x29 ?hfx38ax0x15x17x26x28x29 ?hrx38ax0x15x17x26x28x29 ?hQx38ax0x15x17x26x28x29 (yieldsIf_load_at ?hwx38ax0x15x17x26x28x29 26 (.tmp 4) ?hopx38ax0x15x17x26x28x29 (w.heap.size + 1) 0 rfl B _ (fun W hW => range_row hW.2.2.1) Try.underlying26 rfl ?hix38ax0x15x17x26x28x29) hS ?restx38ax0x15x17x26x28x29
        case h1x38ax0x15x17x26x28x29 => (simp only [List.getElem?_toArray, List.getElem?_cons_succ, List.getElem?_cons_zero]; rfl)
        case hopx38ax0x15x17x26x28x29 => rfl
        case hsx38ax0x15x17x26x28x29 => kernel_rfl
        case hfx38ax0x15x17x26x28x29 => kernel_rfl
        case hrx38ax0x15x17x26x28x29 => kernel_rfl
        case hQx38ax0x15x17x26x28x29 => exact fun _ _ _ h => h
        case hwx38ax0x15x17x26x28x29 => rfl
        case hix38ax0x15x17x26x28x29 => exact ib.out
        simp only [Act.put, List.setIfInBounds_toArray, List.set_cons_succ, List.set_cons_zero]
        refine wpAnyH_ready (rs := [35]) (by kernel_rfl) (by simp) ?_
        refine' (AllReadyH.cons ?hoc35ax0x15x17x26x28x29 (fun K hK => ?stc35ax0x15x17x26x28x29) AllReadyH.nil)
        case hoc35ax0x15x17x26x28x29 => (simp only [List.getElem?_toArray, List.getElem?_cons_succ, List.getElem?_cons_zero]; rfl)
        go_simp
        refine (S1.out Wax0x15x17x26x28x29 hS.1).mono ?_
        rintro e Wax0x15x17x26x28x29x35 ⟨rfl, hb⟩
        go_wp2_with fail
        refine hK.out _ _ (⟨hS.1.trans (hb.mono hS.1.size), (hb.block _ (blk_lt hS.2.1)).trans hS.2.1, (hb.block _ (blk_lt hS.2.2.1)).trans hS.2.2.1, (hb.block _ (blk_lt hS.2.2.2.1)).trans hS.2.2.2.1, (hb.block _ (blk_lt hS.2.2.2.2)).trans hS.2.2.2.2⟩) (fun hHeld => ?_)
        clear hK K
        try simp only [Act.put, List.setIfInBounds_toArray, List.set_cons_succ, List.set_cons_zero]
        clear hS
        have hS := hHeld
        clear hHeld
        clear hb
        refine wpAnyH_ready (rs := [37]) (by kernel_rfl) (by simp) ?_
        refine' (AllReadyH.cons ?hoc37ax0x15x17x26x28x29x35 (fun K hK => ?stc37ax0x15x17x26x28x29x35) AllReadyH.nil)
        case hoc37ax0x15x17x26x28x29x35 => (simp only [List.getElem?_toArray, List.getElem?_cons_succ, List.getElem?_cons_zero]; rfl)
        go_simp
        refine (AP.out Wax0x15x17x26x28x29x35 hS.1).mono ?_
        rintro e Wax0x15x17x26x28x29x35x37 ⟨rfl, hb⟩
        go_wp2_with fail
        refine hK.out _ _ (⟨hS.1.trans (hb.mono hS.1.size), (hb.block _ (blk_lt hS.2.1)).trans hS.2.1, (hb.block _ (blk_lt hS.2.2.1)).trans hS.2.2.1, (hb.block _ (blk_lt hS.2.2.2.1)).trans hS.2.2.2.1, (hb.block _ (blk_lt hS.2.2.2.2)).trans hS.2.2.2.2⟩) (fun hHeld => ?_)
        clear hK K
        try simp only [Act.put, List.setIfInBounds_toArray, List.set_cons_succ, List.set_cons_zero]
        clear hS
        have hS := hHeld
        clear hHeld
        clear hb
        refine wpAnyH_ready (rs := [39]) (by kernel_rfl) (by simp) ?_
        refine' (AllReadyH.cons ?hoc39ax0x15x17x26x28x29x35x37 (fun K hK => ?stc39ax0x15x17x26x28x29x35x37) AllReadyH.nil)
        case hoc39ax0x15x17x26x28x29x35x37 => (simp only [List.getElem?_toArray, List.getElem?_cons_succ, List.getElem?_cons_zero]; rfl)
        go_simp
        refine (AQ.out Wax0x15x17x26x28x29x35x37 hS.1).mono ?_
        rintro e Wax0x15x17x26x28x29x35x37x39 ⟨rfl, hb⟩
        go_wp2_with fail
        refine hK.out _ _ (⟨hS.1.trans (hb.mono hS.1.size), (hb.block _ (blk_lt hS.2.1)).trans hS.2.1, (hb.block _ (blk_lt hS.2.2.1)).trans hS.2.2.1, (hb.block _ (blk_lt hS.2.2.2.1)).trans hS.2.2.2.1, (hb.block _ (blk_lt hS.2.2.2.2)).trans hS.2.2.2.2⟩) (fun hHeld => ?_)
        clear hK K
        try simp only [Act.put, List.setIfInBounds_toArray, List.set_cons_succ, List.set_cons_zero]
        clear hS
        have hS := hHeld
        clear hHeld
        clear hb
        refine wpAnyH_ready (rs := [40]) (by kernel_rfl) (by simp) ?_
        refine' (AllReadyH.cons ?hoc40ax0x15x17x26x28x29x35x37x39 (fun K hK => ?stc40ax0x15x17x26x28x29x35x37x39) AllReadyH.nil)
        case hoc40ax0x15x17x26x28x29x35x37x39 => (simp only [List.getElem?_toArray, List.getElem?_cons_succ, List.getElem?_cons_zero]; rfl)
        go_simp
        refine (S2.out Wax0x15x17x26x28x29x35x37x39 hS.1).mono ?_
        rintro e Wax0x15x17x26x28x29x35x37x39x40 ⟨rfl, hb⟩
        go_wp2_with fail
        refine hK.out _ _ (⟨hS.1.trans (hb.mono hS.1.size), (hb.block _ (blk_lt hS.2.1)).trans hS.2.1, (hb.block _ (blk_lt hS.2.2.1)).trans hS.2.2.1, (hb.block _ (blk_lt hS.2.2.2.1)).trans hS.2.2.2.1, (hb.block _ (blk_lt hS.2.2.2.2)).trans hS.2.2.2.2⟩) (fun hHeld => ?_)
        clear hK K
        try simp only [Act.put, List.setIfInBounds_toArray, List.set_cons_succ, List.set_cons_zero]
        clear hS
        have hS := hHeld
        clear hHeld
        clear hb
        refine' wpAnyH_take (i := 41) ?h1x41ax0x15x17x26x28x29x35x37x39x40 ?hsx41ax0x15x17x26x28x29x35x37x39x40 ?hfx41ax0x15x17x26x28x29x35x37x39x40 ?hrx41ax0x15x17x26x28x29x35x37x39x40 ?hQx41ax0x15x17x26x28x29x35x37x39x40 (Or.inl ⟨?hwx41ax0x15x17x26x28x29x35x37x39x40, ?hyx41ax0x15x17x26x28x29x35x37x39x40⟩) hS ?restx41ax0x15x17x26x28x29x35x37x39x40
        case h1x41ax0x15x17x26x28x29x35x37x39x40 => (simp only [List.getElem?_toArray, List.getElem?_cons_succ, List.getElem?_cons_zero]; rfl)
        case hsx41ax0x15x17x26x28x29x35x37x39x40 => kernel_rfl
        case hfx41ax0x15x17x26x28x29x35x37x39x40 => kernel_rfl
        case hrx41ax0x15x17x26x28x29x35x37x39x40 => kernel_rfl
        case hQx41ax0x15x17x26x28x29x35x37x39x40 => exact fun _ _ _ h => h
        case hwx41ax0x15x17x26x28x29x35x37x39x40 => rfl
        case hyx41ax0x15x17x26x28x29x35x37x39x40 =>
          intro W hW
          go_simp
          try with_reducible rfl
        simp only [Act.put, List.setIfInBounds_toArray, List.set_cons_succ, List.set_cons_zero]
        refine' wpAnyH_take (i := 42) ?h1x42ax0x15x17x26x28x29x35x37x39x40 ?hsx42ax0x15x17x26x28x29x35x37x39x40 ?hfx42ax0x15x17x26x28x29x35x37x39x40 ?hrx42ax0x15x17x26x28x29x35x37x39x40 ?hQx42ax0x15x17x26x28x29x35x37x39x40 (Or.inl ⟨?hwx42ax0x15x17x26x28x29x35x37x39x40, ?hyx42ax0x15x17x26x28x29x35x37x39x40⟩) hS ?restx42ax0x15x17x26x28x29x35x37x39x40
        case h1x42ax0x15x17x26x28x29x35x37x39x40 => (simp only [List.getElem?_toArray, List.getElem?_cons_succ, List.getElem?_cons_zero]; rfl)
        case hsx42ax0x15x17x26x28x29x35x37x39x40 => kernel_rfl
        case hfx42ax0x15x17x26x28x29x35x37x39x40 => kernel_rfl
        case hrx42ax0x15x17x26x28x29x35x37x39x40 => kernel_rfl
        case hQx42ax0x15x17x26x28x29x35x37x39x40 => exact fun _ _ _ h => h
        case hwx42ax0x15x17x26x28x29x35x37x39x40 => rfl
        case hyx42ax0x15x17x26x28x29x35x37x39x40 =>
          intro W hW
          go_simp
          try with_reducible rfl
        simp only [Act.put, List.setIfInBounds_toArray, List.set_cons_succ, List.set_cons_zero]
        refine' wpAnyH_take (i := 43) ?h1x43ax0x15x17x26x28x29x35x37x39x40 ?hsx43ax0x15x17x26x28x29x35x37x39x40 ?hfx43ax0x15x17x26x28x29x35x37x39x40 ?hrx43ax0x15x17x26x28x29x35x37x39x40 ?hQx43ax0x15x17x26x28x29x35x37x39x40 (Or.inl ⟨?hwx43ax0x15x17x26x28x29x35x37x39x40, ?hyx43ax0x15x17x26x28x29x35x37x39x40⟩) hS ?restx43ax0x15x17x26x28x29x35x37x39x40
        case h1x43ax0x15x17x26x28x29x35x37x39x40 => (simp only [List.getElem?_toArray, List.getElem?_cons_succ, List.getElem?_cons_zero]; rfl)
        case hsx43ax0x15x17x26x28x29x35x37x39x40 => kernel_rfl
        case hfx43ax0x15x17x26x28x29x35x37x39x40 => kernel_rfl
        case hrx43ax0x15x17x26x28x29x35x37x39x40 => kernel_rfl
        case hQx43ax0x15x17x26x28x29x35x37x39x40 => exact fun _ _ _ h => h
        case hwx43ax0x15x17x26x28x29x35x37x39x40 => rfl
        case hyx43ax0x15x17x26x28x29x35x37x39x40 =>
          intro W hW
          go_simp
          try with_reducible rfl
        simp only [Act.put, List.setIfInBounds_toArray, List.set_cons_succ, List.set_cons_zero]
        refine' wpAnyH_take (i := 44) ?h1x44ax0x15x17x26x28x29x35x37x39x40 ?hsx44ax0x15x17x26x28x29x35x37x39x40 ?hfx44ax0x15x17x26x28x29x35x37x39x40 ?hrx44ax0x15x17x26x28x29x35x37x39x40 ?hQx44ax0x15x17x26x28x29x35x37x39x40 (yieldsIf_load_at ?hwx44ax0x15x17x26x28x29x35x37x39x40 26 (.tmp 3) ?hopx44ax0x15x17x26x28x29x35x37x39x40 w.heap.size 0 rfl A _ (fun W hW => range_row hW.2.1) Try.underlying26 rfl ?hix44ax0x15x17x26x28x29x35x37x39x40) hS ?restx44ax0x15x17x26x28x29x35x37x39x40
        case h1x44ax0x15x17x26x28x29x35x37x39x40 => (simp only [List.getElem?_toArray, List.getElem?_cons_succ, List.getElem?_cons_zero]; rfl)
        case hopx44ax0x15x17x26x28x29x35x37x39x40 => rfl
        case hsx44ax0x15x17x26x28x29x35x37x39x40 => kernel_rfl
        case hfx44ax0x15x17x26x28x29x35x37x39x40 => kernel_rfl
        case hrx44ax0x15x17x26x28x29x35x37x39x40 => kernel_rfl
        case hQx44ax0x15x17x26x28x29x35x37x39x40 => exact fun _ _ _ h => h
        case hwx44ax0x15x17x26x28x29x35x37x39x40 => rfl
        case hix44ax0x15x17x26x28x29x35x37x39x40 => exact ia.out
        simp only [Act.put, List.setIfInBounds_toArray, List.set_cons_succ, List.set_cons_zero]
        refine' wpAnyH_take (i := 46) ?h1x46ax0x15x17x26x28x29x35x37x39x40 ?hsx46ax0x15x17x26x28x29x35x37x39x40 ?hfx46ax0x15x17x26x28x29x35x37x39x40 ?hrx46ax0x15x17x26x28x29x35x37x39x40 ?hQx46ax0x15x17x26x28x29x35x37x39x40 (Or.inl ⟨?hwx46ax0x15x17x26x28x29x35x37x39x40, ?hyx46ax0x15x17x26x28x29x35x37x39x40⟩) hS ?restx46ax0x15x17x26x28x29x35x37x39x40
        case h1x46ax0x15x17x26x28x29x35x37x39x40 => (simp only [List.getElem?_toArray, List.getElem?_cons_succ, List.getElem?_cons_zero]; rfl)
        case hsx46ax0x15x17x26x28x29x35x37x39x40 => kernel_rfl
        case hfx46ax0x15x17x26x28x29x35x37x39x40 => kernel_rfl
        case hrx46ax0x15x17x26x28x29x35x37x39x40 => kernel_rfl
        case hQx46ax0x15x17x26x28x29x35x37x39x40 => exact fun _ _ _ h => h
        case hwx46ax0x15x17x26x28x29x35x37x39x40 => rfl
        case hyx46ax0x15x17x26x28x29x35x37x39x40 =>
          intro W hW
          go_simp
          try with_reducible rfl
        simp only [Act.put, List.setIfInBounds_toArray, List.set_cons_succ, List.set_cons_zero]
        refine wpAnyH_ready (rs := [45]) (by kernel_rfl) (by simp) ?_
        refine' (AllReadyH.cons ?hoc45ax0x15x17x26x28x29x35x37x39x40 (fun K hK => ?stc45ax0x15x17x26x28x29x35x37x39x40) AllReadyH.nil)
        case hoc45ax0x15x17x26x28x29x35x37x39x40 => (simp only [List.getElem?_toArray, List.getElem?_cons_succ, List.getElem?_cons_zero]; rfl)
        go_simp
        refine (BL.out Wax0x15x17x26x28x29x35x37x39x40 hS.1).mono ?_
        rintro e Wax0x15x17x26x28x29x35x37x39x40x45 ⟨rfl, hb⟩
        go_wp2_with fail
        refine hK.out _ _ (⟨hS.1.trans (hb.mono hS.1.size), (hb.block _ (blk_lt hS.2.1)).trans hS.2.1, (hb.block _ (blk_lt hS.2.2.1)).trans hS.2.2.1, (hb.block _ (blk_lt hS.2.2.2.1)).trans hS.2.2.2.1, (hb.block _ (blk_lt hS.2.2.2.2)).trans hS.2.2.2.2⟩) (fun hHeld => ?_)
        clear hK K
        try simp only [Act.put, List.setIfInBounds_toArray, List.set_cons_succ, List.set_cons_zero]
        clear hS
        have hS := hHeld
        clear hHeld
        clear hb
        refine' wpAnyH_take (i := 47) ?h1x47ax0x15x17x26x28x29x35x37x39x40x45 ?hsx47ax0x15x17x26x28x29x35x37x39x40x45 ?hfx47ax0x15x17x26x28x29x35x37x39x40x45 ?hrx47ax0x15x17x26x28x29x35x37x39x40x45 ?hQx47ax0x15x17x26x28x29x35x37x39x40x45 (Or.inl ⟨?hwx47ax0x15x17x26x28x29x35x37x39x40x45, ?hyx47ax0x15x17x26x28x29x35x37x39x40x45⟩) hS ?restx47ax0x15x17x26x28x29x35x37x39x40x45
        case h1x47ax0x15x17x26x28x29x35x37x39x40x45 => (simp only [List.getElem?_toArray, List.getElem?_cons_succ, List.getElem?_cons_zero]; rfl)
        case hsx47ax0x15x17x26x28x29x35x37x39x40x45 => kernel_rfl
        case hfx47ax0x15x17x26x28x29x35x37x39x40x45 => kernel_rfl
        case hrx47ax0x15x17x26x28x29x35x37x39x40x45 => kernel_rfl
        case hQx47ax0x15x17x26x28x29x35x37x39x40x45 => exact fun _ _ _ h => h
        case hwx47ax0x15x17x26x28x29x35x37x39x40x45 => rfl
        case hyx47ax0x15x17x26x28x29x35x37x39x40x45 =>
          intro W hW
          go_simp
          try with_reducible rfl
        simp only [Act.put, List.setIfInBounds_toArray, List.set_cons_succ, List.set_cons_zero]
        refine' wpAnyH_take (i := 48) ?h1x48ax0x15x17x26x28x29x35x37x39x40x45 ?hsx48ax0x15x17x26x28x29x35x37x39x40x45 ?hfx48ax0x15x17x26x28x29x35x37x39x40x45 ?hrx48ax0x15x17x26x28x29x35x37x39x40x45 ?hQx48ax0x15x17x26x28x29x35x37x39x40x45 (Or.inl ⟨?hwx48ax0x15x17x26x28x29x35x37x39x40x45, ?hyx48ax0x15x17x26x28x29x35x37x39x40x45⟩) hS ?restx48ax0x15x17x26x28x29x35x37x39x40x45
        case h1x48ax0x15x17x26x28x29x35x37x39x40x45 => (simp only [List.getElem?_toArray, List.getElem?_cons_succ, List.getElem?_cons_zero]; rfl)
        case hsx48ax0x15x17x26x28x29x35x37x39x40x45 => kernel_rfl
        case hfx48ax0x15x17x26x28x29x35x37x39x40x45 => kernel_rfl
        case hrx48ax0x15x17x26x28x29x35x37x39x40x45 => kernel_rfl
        case hQx48ax0x15x17x26x28x29x35x37x39x40x45 => exact fun _ _ _ h => h
        case hwx48ax0x15x17x26x28x29x35x37x39x40x45 => rfl
        case hyx48ax0x15x17x26x28x29x35x37x39x40x45 =>
          intro W hW
          go_simp
          try with_reducible rfl
        simp only [Act.put, List.setIfInBounds_toArray, List.set_cons_succ, List.set_cons_zero]
        refine' wpAnyH_take (i := 49) ?h1x49ax0x15x17x26x28x29x35x37x39x40x45 ?hsx49ax0x15x17x26x28x29x35x37x39x40x45 ?hfx49ax0x15x17x26x28x29x35x37x39x40x45 ?hrx49ax0x15x17x26x28x29x35x37x39x40x45 ?hQx49ax0x15x17x26x28x29x35x37x39x40x45 (Or.inl ⟨?hwx49ax0x15x17x26x28x29x35x37x39x40x45, ?hyx49ax0x15x17x26x28x29x35x37x39x40x45⟩) hS ?restx49ax0x15x17x26x28x29x35x37x39x40x45
        case h1x49ax0x15x17x26x28x29x35x37x39x40x45 => (simp only [List.getElem?_toArray, List.getElem?_cons_succ, List.getElem?_cons_zero]; rfl)
        case hsx49ax0x15x17x26x28x29x35x37x39x40x45 => kernel_rfl
        case hfx49ax0x15x17x26x28x29x35x37x39x40x45 => kernel_rfl
        case hrx49ax0x15x17x26x28x29x35x37x39x40x45 => kernel_rfl
        case hQx49ax0x15x17x26x28x29x35x37x39x40x45 => exact fun _ _ _ h => h
        case hwx49ax0x15x17x26x28x29x35x37x39x40x45 => rfl
        case hyx49ax0x15x17x26x28x29x35x37x39x40x45 =>
          intro W hW
          go_simp
          try with_reducible rfl
        simp only [Act.put, List.setIfInBounds_toArray, List.set_cons_succ, List.set_cons_zero]
        refine wpAnyH_done (by kernel_rfl) ?_ _
        go_wp2_with fail
        go_ret
        exact ⟨rfl, B11.out.trans (hS.1.mono B11.out.size)⟩
      · by_cases h5 : pk = 5
        · have e := KC5.out h5
          subst h5
          subst e
          clear KC KC5 KC4 KC0 h3
          go_upto_region 17 with (fail)
          clear CK0 CK5 CK137
          refine wp_region_held_drew (S := fun W => Below wu.heap.size wu W ∧ W.heap[w.heap.size]? = some (.cells A 26 (0, 0)) ∧ W.heap[(w.heap.size + 1)]? = some (.cells B 26 (0, 0)) ∧ W.heap[w7.heap.size]? = some (.cells C 26 (0, 0)) ∧ W.heap[wt.heap.size]? = some (.cells E 35 (0, 0))) (by kernel_rfl) (⟨(Below.refl _ _).drew, A11.out, Q11.out, C11.out, E11.out⟩) (fun hS => ?_)
          have hb0 : Below wu.heap.size wu wu.drew := (Below.refl _ _).drew
          clear hb0 
          generalize wu.drew = Wbs at hS  ⊢
          refine wpAnyH_ready (rs := [0]) (by kernel_rfl) (by simp) ?_
          refine' (AllReadyH.cons ?hoc0b (fun K hK => ?stc0b) AllReadyH.nil)
          case hoc0b => (simp only [List.getElem?_toArray, List.getElem?_cons_zero]; rfl)
          go_simp
          refine (AL.out Wbs).mono ?_
          rintro e Wbx0 ⟨rfl, hb⟩
          go_wp2_with fail
          refine hK.out _ _ (⟨hS.1.trans (hb.mono hS.1.size), (hb.block _ (blk_lt hS.2.1)).trans hS.2.1, (hb.block _ (blk_lt hS.2.2.1)).trans hS.2.2.1, (hb.block _ (blk_lt hS.2.2.2.1)).trans hS.2.2.2.1, (hb.block _ (blk_lt hS.2.2.2.2)).trans hS.2.2.2.2⟩) (fun hHeld => ?_)
          clear hK K
          try simp only [Act.put, List.setIfInBounds_toArray, List.set_cons_succ, List.set_cons_zero]
          clear hS
          have hS := hHeld
          clear hHeld
          clear hb
          refine' wpAnyH_take (i := 1) ?h1x1bx0 ?hsx1bx0 ?hfx1bx0 ?hrx1bx0 ?hQx1bx0 (Or.inl ⟨?hwx1bx0, ?hyx1bx0⟩) hS ?restx1bx0
          case h1x1bx0 => (simp only [List.getElem?_toArray, List.getElem?_cons_succ, List.getElem?_cons_zero]; rfl)
          case hsx1bx0 => kernel_rfl
          case hfx1bx0 => kernel_rfl
          case hrx1bx0 => kernel_rfl
          case hQx1bx0 => exact fun _ _ _ h => h
          case hwx1bx0 => rfl
          case hyx1bx0 =>
            intro W hW
            go_simp
            try with_reducible rfl
          simp only [Act.put, List.setIfInBounds_toArray, List.set_cons_succ, List.set_cons_zero]
          refine' wpAnyH_take (i := 2) ?h1x2bx0 ?hsx2bx0 ?hfx2bx0 ?hrx2bx0 ?hQx2bx0 (Or.inl ⟨?hwx2bx0, ?hyx2bx0⟩) hS ?restx2bx0
          case h1x2bx0 => (simp only [List.getElem?_toArray, List.getElem?_cons_succ, List.getElem?_cons_zero]; rfl)
          case hsx2bx0 => kernel_rfl
          case hfx2bx0 => kernel_rfl
          case hrx2bx0 => kernel_rfl
          case hQx2bx0 => exact fun _ _ _ h => h
          case hwx2bx0 => rfl
          case hyx2bx0 =>
            intro W hW
            go_simp
            try with_reducible rfl
          simp only [Act.put, List.setIfInBounds_toArray, List.set_cons_succ, List.set_cons_zero]
          refine' wpAnyH_take (i := 3) ?h1x3bx0 ?hsx3bx0 ?hfx3bx0 ?hrx3bx0 ?hQx3bx0 (Or.inl ⟨?hwx3bx0, ?hyx3bx0⟩) hS ?restx3bx0
          case h1x3bx0 => (simp only [List.getElem?_toArray, List.getElem?_cons_succ, List.getElem?_cons_zero]; rfl)
          case hsx3bx0 => kernel_rfl
          case hfx3bx0 => kernel_rfl
          case hrx3bx0 => kernel_rfl
          case hQx3bx0 => exact fun _ _ _ h => h
          case hwx3bx0 => rfl
          case hyx3bx0 =>
            intro W hW
            have dd := CX.out W hW.1
            go_simp
            try with_reducible rfl
          simp only [Act.put, List.setIfInBounds_toArray, List.set_cons_succ, List.set_cons_zero]
          refine' wpAnyH_take (i := 4) ?h1x4bx0 ?hsx4bx0 ?hfx4bx0 ?hrx4bx0 ?hQx4bx0 (Or.inl ⟨?hwx4bx0, ?hyx4bx0⟩) hS ?restx4bx0
          case h1x4bx0 => (simp only [List.getElem?_toArray, List.getElem?_cons_succ, List.getElem?_cons_zero]; rfl)
          case hsx4bx0 => kernel_rfl
          case hfx4bx0 => kernel_rfl
          case hrx4bx0 => kernel_rfl
          case hQx4bx0 => exact fun _ _ _ h => h
          case hwx4bx0 => rfl
          case hyx4bx0 =>
            intro W hW
            go_simp
            try with_reducible rfl
          simp only [Act.put, List.setIfInBounds_toArray, List.set_cons_succ, List.set_cons_zero]
          refine' wpAnyH_take (i := 5) ?h1x5bx0 ?hsx5bx0 ?hfx5bx0 ?hrx5bx0 ?hQx5bx0 (Or.inl ⟨?hwx5bx0, ?hyx5bx0⟩) hS ?restx5bx0
          case h1x5bx0 => (simp only [List.getElem?_toArray, List.getElem?_cons_succ, List.getElem?_cons_zero]; rfl)
          case hsx5bx0 => kernel_rfl
          case hfx5bx0 => kernel_rfl
          case hrx5bx0 => kernel_rfl
          case hQx5bx0 => exact fun _ _ _ h => h
          case hwx5bx0 => rfl
          case hyx5bx0 =>
            intro W hW
            have dd := CY.out W hW.1
            go_simp
            try with_reducible rfl
          simp only [Act.put, List.setIfInBounds_toArray, List.set_cons_succ, List.set_cons_zero]
          refine' wpAnyH_take (i := 6) ?h1x6bx0 ?hsx6bx0 ?hfx6bx0 ?hrx6bx0 ?hQx6bx0 (Or.inl ⟨?hwx6bx0, ?hyx6bx0⟩) hS ?restx6bx0
          case h1x6bx0 => (simp only [List.getElem?_toArray, List.getElem?_cons_succ, List.getElem?_cons_zero]; rfl)
          case hsx6bx0 => kernel_rfl
          case hfx6bx0 => kernel_rfl
          case hrx6bx0 => kernel_rfl
          case hQx6bx0 => exact fun _ _ _ h => h
          case hwx6bx0 => rfl
          case hyx6bx0 =>
            intro W hW
            go_simp
            try with_reducible rfl
          simp only [Act.put, List.setIfInBounds_toArray, List.set_cons_succ, List.set_cons_zero]
          refine' wpAnyH_take (i := 7) ?h1x7bx0 ?hsx7bx0 ?hfx7bx0 ?hrx7bx0 ?hQx7bx0 (Or.inl ⟨?hwx7bx0, ?hyx7bx0⟩) hS ?restx7bx0
          case h1x7bx0 => (simp only [List.getElem?_toArray, List.getElem?_cons_succ, List.getElem?_cons_zero]; rfl)
          case hsx7bx0 => kernel_rfl
          case hfx7bx0 => kernel_rfl
          case hrx7bx0 => kernel_rfl
          case hQx7bx0 => exact fun _ _ _ h => h
          case hwx7bx0 => rfl
          case hyx7bx0 =>
            intro W hW
            go_simp
            try with_reducible rfl
          simp only [Act.put, List.setIfInBounds_toArray, List.set_cons_succ, List.set_cons_zero]
          refine' wpAnyH_take (i := 8) ?h1x8bx0 ?hsx8bx0 ?hfx8bx0 ?hrx8bx0 ?hQx8bx0 (Or.inl ⟨?hwx8bx0, ?hyx8bx0⟩) hS ?restx8bx0
          case h1x8bx0 => (simp only [List.getElem?_toArray, List.getElem?_cons_succ, List.getElem?_cons_zero]; rfl)
          case hsx8bx0 => kernel_rfl
          case hfx8bx0 => kernel_rfl
          case hrx8bx0 => kernel_rfl
          case hQx8bx0 => exact fun _ _ _ h => h
          case hwx8bx0 => rfl
          case hyx8bx0 =>
            intro W hW
            go_simp
            try with_reducible rfl
          simp only [Act.put, List.setIfInBounds_toArray, List.set_cons_succ, List.set_cons_zero]
          refine' wpAnyH_take (i := 9) ?h1x9bx0 ?hsx9bx0 ?hfx9bx0 ?hrx9bx0 ?hQx9bx0 (Or.inl ⟨?hwx9bx0, ?hyx9bx0⟩) hS ?restx9bx0
          case h1x9bx0 => (simp only [List.getElem?_toArray, List.getElem?_cons_succ, List.getElem?_cons_zero]; rfl)
          case hsx9bx0 => kernel_rfl
          case hfx9bx0 => kernel_rfl
          case hrx9bx0 => kernel_rfl
          case hQx9bx0 => exact fun _ _ _ h => h
          case hwx9bx0 => rfl
          case hyx9bx0 =>
            intro W hW
            go_simp
            try with_reducible rfl
          simp only [Act.put, List.setIfInBounds_toArray, List.set_cons_succ, List.set_cons_zero]
          refine' wpAnyH_take (i := 10) ?h1x10bx0 ?hsx10bx0 ?hfx10bx0 ?hrx10bx0 ?hQx10bx0 (Or.inl ⟨?hwx10bx0, ?hyx10bx0⟩) hS ?restx10bx0
          case h1x10bx0 => (simp only [List.getElem?_toArray, List.getElem?_cons_succ, List.getElem?_cons_zero]; rfl)
          case hsx10bx0 => kernel_rfl
          case hfx10bx0 => kernel_rfl
          case hrx10bx0 => kernel_rfl
          case hQx10bx0 => exact fun _ _ _ h => h
          case hwx10bx0 => rfl
          case hyx10bx0 =>
            intro W hW
            go_simp
            try with_reducible rfl
          simp only [Act.put, List.setIfInBounds_toArray, List.set_cons_succ, List.set_cons_zero]
          refine' wpAnyH_take (i := 11) ?h1x11bx0 ?hsx11bx0 ?hfx11bx0 ?hrx11bx0 ?hQx11bx0 (Or.inl ⟨?hwx11bx0, ?hyx11bx0⟩) hS ?restx11bx0
          case h1x11bx0 => (simp only [List.getElem?_toArray, List.getElem?_cons_succ, List.getElem?_cons_zero]; rfl)
          case hsx11bx0 => kernel_rfl
          case hfx11bx0 => kernel_rfl
          case hrx11bx0 => kernel_rfl
          case hQx11bx0 => exact fun _ _ _ h => h
          case hwx11bx0 => rfl
          case hyx11bx0 =>
            intro W hW
            go_simp
            try with_reducible rfl
          simp only [Act.put, List.setIfInBounds_toArray, List.set_cons_succ, List.set_cons_zero]
          refine' wpAnyH_take (i := 12) ?h1x12bx0 ?hsx12bx0 ?hfx12bx0 ?hrx12bx0 ?hQx12bx0 (Or.inl ⟨?hwx12bx0, ?hyx12bx0⟩) hS ?restx12bx0
          case h1x12bx0 => (simp only [List.getElem?_toArray, List.getElem?_cons_succ, List.getElem?_cons_zero]; rfl)
          case hsx12bx0 => kernel_rfl
          case hfx12bx0 => kernel_rfl
          case hrx12bx0 => kernel_rfl
          case hQx12bx0 => exact fun _ _ _ h => h
          case hwx12bx0 => rfl
          case hyx12bx0 =>
            intro W hW
            go_simp
            try with_reducible rfl
          simp only [Act.put, List.setIfInBounds_toArray, List.set_cons_succ, List.set_cons_zero]
          refine' wpAnyH_take (i := 13) ?h1x13bx0 ?hsx13bx0 ?hfx13bx0 ?hrx13bx0 ?hQx13bx0 (Or.inl ⟨?hwx13bx0, ?hyx13bx0⟩) hS ?restx13bx0
          case h1x13bx0 => (simp only [List.getElem?_toArray, List.getElem?_cons_succ, List.getElem?_cons_zero]; rfl)
          case hsx13bx0 => kernel_rfl
          case hfx13bx0 => kernel_rfl
          case hrx13bx0 => kernel_rfl
          case hQx13bx0 => exact fun _ _ _ h => h
          case hwx13bx0 => rfl
          case hyx13bx0 =>
            intro W hW
            go_simp
            try with_reducible rfl
          simp only [Act.put, List.setIfInBounds_toArray, List.set_cons_succ, List.set_cons_zero]
          refine' wpAnyH_take (i := 14) ?h1x14bx0 ?hsx14bx0 ?hfx14bx0 ?hrx14bx0 ?hQx14bx0 (yieldsIf_load_at ?hwx14bx0 26 (.tmp 12) ?hopx14bx0 w7.heap.size 0 rfl C _ (fun W hW => range_row hW.2.2.2.1) Try.underlying26 rfl ?hix14bx0) hS ?restx14bx0
          case h1x14bx0 => (simp only [List.getElem?_toArray, List.getElem?_cons_succ, List.getElem?_cons_zero]; rfl)
          case hopx14bx0 => rfl
          case hsx14bx0 => kernel_rfl
          case hfx14bx0 => kernel_rfl
          case hrx14bx0 => kernel_rfl
          case hQx14bx0 => exact fun _ _ _ h => h
          case hwx14bx0 => rfl
          case hix14bx0 => exact IC.out
          simp only [Act.put, List.setIfInBounds_toArray, List.set_cons_succ, List.set_cons_zero]
          refine' wpAnyH_take (i := 16) ?h1x16bx0 ?hsx16bx0 ?hfx16bx0 ?hrx16bx0 ?hQx16bx0 (yieldsIf_load_at ?hwx16bx0 35 (.tmp 15) ?hopx16bx0 wt.heap.size 0 rfl E _ (fun W hW => range_row hW.2.2.2.2) Try.underlying35 rfl ?hix16bx0) hS ?restx16bx0
          case h1x16bx0 => (simp only [List.getElem?_toArray, List.getElem?_cons_succ, List.getElem?_cons_zero]; rfl)
          case hopx16bx0 => rfl
          case hsx16bx0 => kernel_rfl
          case hfx16bx0 => kernel_rfl
          case hrx16bx0 => kernel_rfl
          case hQx16bx0 => exact fun _ _ _ h => h
          case hwx16bx0 => rfl
          case hix16bx0 => exact IE.out
          simp only [Act.put, List.setIfInBounds_toArray, List.set_cons_succ, List.set_cons_zero]
          refine wpAnyH_ready (rs := [15]) (by kernel_rfl) (by simp) ?_
          refine' (AllReadyH.cons ?hoc15bx0 (fun K hK => ?stc15bx0) AllReadyH.nil)
          case hoc15bx0 => (simp only [List.getElem?_toArray, List.getElem?_cons_succ, List.getElem?_cons_zero]; rfl)
          go_simp
          refine (AC.out Wbx0 hS.1).mono ?_
          rintro e Wbx0x15 ⟨rfl, hb⟩
          go_wp2_with fail
          refine hK.out _ _ (⟨hS.1.trans (hb.mono hS.1.size), (hb.block _ (blk_lt hS.2.1)).trans hS.2.1, (hb.block _ (blk_lt hS.2.2.1)).trans hS.2.2.1, (hb.block _ (blk_lt hS.2.2.2.1)).trans hS.2.2.2.1, (hb.block _ (blk_lt hS.2.2.2.2)).trans hS.2.2.2.2⟩) (fun hHeld => ?_)
          clear hK K
          try simp only [Act.put, List.setIfInBounds_toArray, List.set_cons_succ, List.set_cons_zero]
          clear hS
          have hS := hHeld
          clear hHeld
          clear hb
          refine wpAnyH_ready (rs := [17]) (by kernel_rfl) (by simp) ?_
          refine' (AllReadyH.cons ?hoc17bx0x15 (fun K hK => ?stc17bx0x15) AllReadyH.nil)
          case hoc17bx0x15 => (simp only [List.getElem?_toArray, List.getElem?_cons_succ, List.getElem?_cons_zero]; rfl)
          go_simp
          refine (SD.out Wbx0x15 hS.1).mono ?_
          rintro e Wbx0x15x17 ⟨rfl, hb⟩
          go_wp2_with fail
          refine hK.out _ _ (⟨hS.1.trans (hb.mono hS.1.size), (hb.block _ (blk_lt hS.2.1)).trans hS.2.1, (hb.block _ (blk_lt hS.2.2.1)).trans hS.2.2.1, (hb.block _ (blk_lt hS.2.2.2.1)).trans hS.2.2.2.1, (hb.block _ (blk_lt hS.2.2.2.2)).trans hS.2.2.2.2⟩) (fun hHeld => ?_)
          clear hK K
          try simp only [Act.put, List.setIfInBounds_toArray, List.set_cons_succ, List.set_cons_zero]
          clear hS
          have hS := hHeld
          clear hHeld
          clear hb
          refine' wpAnyH_take (i := 18) ?h1x18bx0x15x17 ?hsx18bx0x15x17 ?hfx18bx0x15x17 ?hrx18bx0x15x17 ?hQx18bx0x15x17 (Or.inl ⟨?hwx18bx0x15x17, ?hyx18bx0x15x17⟩) hS ?restx18bx0x15x17
          case h1x18bx0x15x17 => (simp only [List.getElem?_toArray, List.getElem?_cons_succ, List.getElem?_cons_zero]; rfl)
          case hsx18bx0x15x17 => kernel_rfl
          case hfx18bx0x15x17 => kernel_rfl
          case hrx18bx0x15x17 => kernel_rfl
          case hQx18bx0x15x17 => exact fun _ _ _ h => h
          case hwx18bx0x15x17 => rfl
          case hyx18bx0x15x17 =>
            intro W hW
            go_simp
            try with_reducible rfl
          simp only [Act.put, List.setIfInBounds_toArray, List.set_cons_succ, List.set_cons_zero]
          refine' wpAnyH_take (i := 19) ?h1x19bx0x15x17 ?hsx19bx0x15x17 ?hfx19bx0x15x17 ?hrx19bx0x15x17 ?hQx19bx0x15x17 (Or.inl ⟨?hwx19bx0x15x17, ?hyx19bx0x15x17⟩) hS ?restx19bx0x15x17
          case h1x19bx0x15x17 => (simp only [List.getElem?_toArray, List.getElem?_cons_succ, List.getElem?_cons_zero]; rfl)
          case hsx19bx0x15x17 => kernel_rfl
          case hfx19bx0x15x17 => kernel_rfl
          case hrx19bx0x15x17 => kernel_rfl
          case hQx19bx0x15x17 => exact fun _ _ _ h => h
          case hwx19bx0x15x17 => rfl
          case hyx19bx0x15x17 =>
            intro W hW
            go_simp
            try with_reducible rfl
          simp only [Act.put, List.setIfInBounds_toArray, List.set_cons_succ, List.set_cons_zero]
          refine' wpAnyH_take (i := 20) ?h1x20bx0x15x17 ?hsx20bx0x15x17 ?hfx20bx0x15x17 ?hrx20bx0x15x17 ?hQx20bx0x15x17 (Or.inl ⟨?hwx20bx0x15x17, ?hyx20bx0x15x17⟩) hS ?restx20bx0x15x17
          case h1x20bx0x15x17 => (simp only [List.getElem?_toArray, List.getElem?_cons_succ, List.getElem?_cons_zero]; rfl)
          case hsx20bx0x15x17 => kernel_rfl
          case hfx20bx0x15x17 => kernel_rfl
          case hrx20bx0x15x17 => kernel_rfl
          case hQx20bx0x15x17 => exact fun _ _ _ h => h
          case hwx20bx0x15x17 => rfl
          case hyx20bx0x15x17 =>
            intro W hW
            go_simp
            try with_reducible rfl
          simp only [Act.put, List.setIfInBounds_toArray, List.set_cons_succ, List.set_cons_zero]
          refine' wpAnyH_take (i := 21) ?h1x21bx0x15x17 ?hsx21bx0x15x17 ?hfx21bx0x15x17 ?hrx21bx0x15x17 ?hQx21bx0x15x17 (Or.inl ⟨?hwx21bx0x15x17, ?hyx21bx0x15x17⟩) hS ?restx21bx0x15x17
          case h1x21bx0x15x17 => (simp only [List.getElem?_toArray, List.getElem?_cons_succ, List.getElem?_cons_zero]; rfl)
          case hsx21bx0x15x17 => kernel_rfl
          case hfx21bx0x15x17 => kernel_rfl
          case hrx21bx0x15x17 => kernel_rfl
          case hQx21bx0x15x17 => exact fun _ _ _ h => h
          case hwx21bx0x15x17 => rfl
          case hyx21bx0x15x17 =>
            intro W hW
            go_simp
            try with_reducible rfl
          simp only [Act.put, List.setIfInBounds_toArray, List.set_cons_succ, List.set_cons_zero]
          refine' wpAnyH_take (i := 22) ?h1x22bx0x15x17 ?hsx22bx0x15x17 ?hfx22bx0x15x17 ?hrx22bx0x15x17 ?hQx22bx0x15x17 (Or.inl ⟨?hwx22bx0x15x17, ?hyx22bx0x15x17⟩) hS ?restx22bx0x15x17
          case h1x22bx0x15x17 => (simp only [List.getElem?_toArray, List.getElem?_cons_succ, List.getElem?_cons_zero]; rfl)
          case hsx22bx0x15x17 => kernel_rfl
          case hfx22bx0x15x17 => kernel_rfl
          case hrx22bx0x15x17 => kernel_rfl
          case hQx22bx0x15x17 => exact fun _ _ _ h => h
          case hwx22bx0x15x17 => rfl
          case hyx22bx0x15x17 =>
            intro W hW
            go_simp
            try with_reducible rfl
          simp only [Act.put, List.setIfInBounds_toArray, List.set_cons_succ, List.set_cons_zero]
          refine' wpAnyH_take (i := 23) ?h1x23bx0x15x17 ?hsx23bx0x15x17 ?hfx23bx0x15x17 ?hrx23bx0x15x17 ?hQx23bx0x15x17 (Or.inl ⟨?hwx23bx0x15x17, ?hyx23bx0x15x17⟩) hS ?restx23bx0x15x17
          case h1x23bx0x15x17 => (simp only [List.getElem?_toArray, List.getElem?_cons_succ, List.getElem?_cons_zero]; rfl)
          case hsx23bx0x15x17 => kernel_rfl
          case hfx23bx0x15x17 => kernel_rfl
          case hrx23bx0x15x17 => kernel_rfl
          case hQx23bx0x15x17 => exact fun _ _ _ h => h
          case hwx23bx0x15x17 => rfl
          case hyx23bx0x15x17 =>
            intro W hW
            go_simp
            try with_reducible rfl
          simp only [Act.put, List.setIfInBounds_toArray, List.set_cons_succ, List.set_cons_zero]
          refine' wpAnyH_take (i := 24) ?h1x24bx0x15x17 ?hsx24bx0x15x17 ?hfx24bx0x15x17 ?hrx24bx0x15x17 ?hQx24bx0x15x17 (Or.inl ⟨?hwx24bx0x15x17, ?hyx24bx0x15x17⟩) hS ?restx24bx0x15x17
          case h1x24bx0x15x17 => (simp only [List.getElem?_toArray, List.getElem?_cons_succ, List.getElem?_cons_zero]; rfl)
          case hsx24bx0x15x17 => kernel_rfl
          case hfx24bx0x15x17 => kernel_rfl
          case hrx24bx0x15x17 => kernel_rfl
          case hQx24bx0x15x17 => exact fun _ _ _ h => h
          case hwx24bx0x15x17 => rfl
          case hyx24bx0x15x17 =>
            intro W hW
            go_simp
            try with_reducible rfl
          simp only [Act.put, List.setIfInBounds_toArray, List.set_cons_succ, List.set_cons_zero]
          refine' wpAnyH_take (i := 25) ?h1x25bx0x15x17 ?hsx25bx0x15x17 ?hfx25bx0x15x17 ?hrx25bx0x15x17 ?hQx25bx0x15x17 (yieldsIf_load_at ?hwx25bx0x15x17 26 (.tmp 3) ?hopx25bx0x15x17 w.heap.size 0 rfl A _ (fun W hW => range_row hW.2.1) Try.underlying26 rfl ?hix25bx0x15x17) hS ?restx25bx0x15x17
          case h1x25bx0x15x17 => (simp only [List.getElem?_toArray, List.getElem?_cons_succ, List.getElem?_cons_zero]; rfl)
          case hopx25bx0x15x17 => rfl
          case hsx25bx0x15x17 => kernel_rfl
          case hfx25bx0x15x17 => kernel_rfl
          case hrx25bx0x15x17 => kernel_rfl
          case hQx25bx0x15x17 => exact fun _ _ _ h => h
          case hwx25bx0x15x17 => rfl
          case hix25bx0x15x17 => exact ia.out
          simp only [Act.put, List.setIfInBounds_toArray, List.set_cons_succ, List.set_cons_zero]
          refine' wpAnyH_take (i := 27) ?h1x27bx0x15x17 ?hsx27bx0x15x17 ?hfx27bx0x15x17 ?hrx27bx0x15x17 ?hQx27bx0x15x17 (yieldsIf_load_at ?hwx27bx0x15x17 26 (.tmp 3) ?hopx27bx0x15x17 w.heap.size 0 rfl A _ (fun W hW => range_row hW.2.1) Try.underlying26 rfl ?hix27bx0x15x17) hS ?restx27bx0x15x17
          case h1x27bx0x15x17 => (simp only [List.getElem?_toArray, List.getElem?_cons_succ, List.getElem?_cons_zero]; rfl)
          case hopx27bx0x15x17 => rfl
          case hsx27bx0x15x17 => kernel_rfl
          case hfx27bx0x15x17 => kernel_rfl
          case hrx27bx0x15x17 => kernel_rfl
          case hQx27bx0x15x17 => exact fun _ _ _ h => h
          case hwx27bx0x15x17 => rfl
          case hix27bx0x15x17 => exact ia.out
          simp only [Act.put, List.setIfInBounds_toArray, List.set_cons_succ, List.set_cons_zero]
          refine wpAnyH_ready (rs := [26]) (by kernel_rfl) (by simp) ?_
          refine' (AllReadyH.cons ?hoc26bx0x15x17 (fun K hK => ?stc26bx0x15x17) AllReadyH.nil)
          case hoc26bx0x15x17 => (simp only [List.getElem?_toArray, List.getElem?_cons_succ, List.getElem?_cons_zero]; rfl)
          go_simp
          refine (R1.out Wbx0x15x17 hS.1).mono ?_
          rintro e Wbx0x15x17x26 ⟨rfl, hb⟩
          go_wp2_with fail
          refine hK.out _ _ (⟨hS.1.trans (hb.mono hS.1.size), (hb.block _ (blk_lt hS.2.1)).trans hS.2.1, (hb.block _ (blk_lt hS.2.2.1)).trans hS.2.2.1, (hb.block _ (blk_lt hS.2.2.2.1)).trans hS.2.2.2.1, (hb.block _ (blk_lt hS.2.2.2.2)).trans hS.2.2.2.2⟩) (fun hHeld => ?_)
          clear hK K
          try simp only [Act.put, List.setIfInBounds_toArray, List.set_cons_succ, List.set_cons_zero]
          clear hS
          have hS := hHeld
          clear hHeld
          clear hb
          refine wpAnyH_ready (rs := [28]) (by kernel_rfl) (by simp) ?_
          refine' (AllReadyH.cons ?hoc28bx0x15x17x26 (fun K hK => ?stc28bx0x15x17x26) AllReadyH.nil)
          case hoc28bx0x15x17x26 => (simp only [List.getElem?_toArray, List.getElem?_cons_succ, List.getElem?_cons_zero]; rfl)
          go_simp
          refine (AP.out Wbx0x15x17x26 hS.1).mono ?_
          rintro e Wbx0x15x17x26x28 ⟨rfl, hb⟩
          go_wp2_with fail
          refine hK.out _ _ (⟨hS.1.trans (hb.mono hS.1.size), (hb.block _ (blk_lt hS.2.1)).trans hS.2.1, (hb.block _ (blk_lt hS.2.2.1)).trans hS.2.2.1, (hb.block _ (blk_lt hS.2.2.2.1)).trans hS.2.2.2.1, (hb.block _ (blk_lt hS.2.2.2.2)).trans hS.2.2.2.2⟩) (fun hHeld => ?_)
          clear hK K
          try simp only [Act.put, List.setIfInBounds_toArray, List.set_cons_succ, List.set_cons_zero]
          clear hS
          have hS := hHeld
          clear hHeld
          clear hb
          refine wpAnyH_ready (rs := [29]) (by kernel_rfl) (by simp) ?_
          refine' (AllReadyH.cons ?hoc29bx0x15x17x26x28 (fun K hK => ?stc29bx0x15x17x26x28) AllReadyH.nil)
          case hoc29bx0x15x17x26x28 => (simp only [List.getElem?_toArray, List.getElem?_cons_succ, List.getElem?_cons_zero]; rfl)
          go_simp
          refine (R2.out Wbx0x15x17x26x28 hS.1).mono ?_
          rintro e Wbx0x15x17x26x28x29 ⟨rfl, hb⟩
          go_wp2_with fail
          refine hK.out _ _ (⟨hS.1.trans (hb.mono hS.1.size), (hb.block _ (blk_lt hS.2.1)).trans hS.2.1, (hb.block _ (blk_lt hS.2.2.1)).trans hS.2.2.1, (hb.block _ (blk_lt hS.2.2.2.1)).trans hS.2.2.2.1, (hb.block _ (blk_lt hS.2.2.2.2)).trans hS.2.2.2.2⟩) (fun hHeld => ?_)
          clear hK K
          try simp only [Act.put, List.setIfInBounds_toArray, List.set_cons_succ, List.set_cons_zero]
          clear hS
          have hS := hHeld
          clear hHeld
          clear hb
          refine' wpAnyH_take (i := 30) ?h1x30bx0x15x17x26x28x29 ?hsx30bx0x15x17x26x28x29 ?hfx30bx0x15x17x26x28x29 ?hrx30bx0x15x17x26x28x29 ?hQx30bx0x15x17x26x28x29 (Or.inl ⟨?hwx30bx0x15x17x26x28x29, ?hyx30bx0x15x17x26x28x29⟩) hS ?restx30bx0x15x17x26x28x29
          case h1x30bx0x15x17x26x28x29 => (simp only [List.getElem?_toArray, List.getElem?_cons_succ, List.getElem?_cons_zero]; rfl)
          case hsx30bx0x15x17x26x28x29 => kernel_rfl
          case hfx30bx0x15x17x26x28x29 => kernel_rfl
          case hrx30bx0x15x17x26x28x29 => kernel_rfl
          case hQx30bx0x15x17x26x28x29 => exact fun _ _ _ h => h
          case hwx30bx0x15x17x26x28x29 => rfl
          case hyx30bx0x15x17x26x28x29 =>
            intro W hW
            go_simp
            try with_reducible rfl
          simp only [Act.put, List.setIfInBounds_toArray, List.set_cons_succ, List.set_cons_zero]
          refine' wpAnyH_take (i := 31) ?h1x31bx0x15x17x26x28x29 ?hsx31bx0x15x17x26x28x29 ?hfx31bx0x15x17x26x28x29 ?hrx31bx0x15x17x26x28x29 ?hQx31bx0x15x17x26x28x29 (Or.inl ⟨?hwx31bx0x15x17x26x28x29, ?hyx31bx0x15x17x26x28x29⟩) hS ?restx31bx0x15x17x26x28x29
          case h1x31bx0x15x17x26x28x29 => (simp only [List.getElem?_toArray, List.getElem?_cons_succ, List.getElem?_cons_zero]; rfl)
          case hsx31bx0x15x17x26x28x29 => kernel_rfl
          case hfx31bx0x15x17x26x28x29 => kernel_rfl
          case hrx31bx0x15x17x26x28x29 => kernel_rfl
          case hQx31bx0x15x17x26x28x29 => exact fun _ _ _ h => h
          case hwx31bx0x15x17x26x28x29 => rfl
          case hyx31bx0x15x17x26x28x29 =>
            intro W hW
            go_simp
            try with_reducible rfl
          simp only [Act.put, List.setIfInBounds_toArray, List.set_cons_succ, List.set_cons_zero]
          refine' wpAnyH_take (i := 32) ?h1x32bx0x15x17x26x28x29 ?hsx32bx0x15x17x26x28x29 ?hfx32bx0x15x17x26x28x29 ?hrx32bx0x15x17x26x28x29 ?hQx32bx0x15x17x26x28x29 (Or.inl ⟨?hwx32bx0x15x17x26x28x29, ?hyx32bx0x15x17x26x28x29⟩) hS ?restx32bx0x15x17x26x28x29
          case h1x32bx0x15x17x26x28x29 => (simp only [List.getElem?_toArray, List.getElem?_cons_succ, List.getElem?_cons_zero]; rfl)
          case hsx32bx0x15x17x26x28x29 => kernel_rfl
          case hfx32bx0x15x17x26x28x29 => kernel_rfl
          case hrx32bx0x15x17x26x28x29 => kernel_rfl
          case hQx32bx0x15x17x26x28x29 => exact fun _ _ _ h => h
          case hwx32bx0x15x17x26x28x29 => rfl
          case hyx32bx0x15x17x26x28x29 =>
            intro W hW
            go_simp
            try with_reducible rfl
          simp only [Act.put, List.setIfInBounds_toArray, List.set_cons_succ, List.set_cons_zero]
          refine' wpAnyH_take (i := 33) ?h1x33bx0x15x17x26x28x29 ?hsx33bx0x15x17x26x28x29 ?hfx33bx0x15x17x26x28x29 ?hrx33bx0x15x17x26x28x29 ?hQx33bx0x15x17x26x28x29 (yieldsIf_load_at ?hwx33bx0x15x17x26x28x29 26 (.tmp 3) ?hopx33bx0x15x17x26x28x29 w.heap.size 0 rfl A _ (fun W hW => range_row hW.2.1) Try.underlying26 rfl ?hix33bx0x15x17x26x28x29) hS ?restx33bx0x15x17x26x28x29
          case h1x33bx0x15x17x26x28x29 => (simp only [List.getElem?_toArray, List.getElem?_cons_succ, List.getElem?_cons_zero]; rfl)
          case hopx33bx0x15x17x26x28x29 => rfl
          case hsx33bx0x15x17x26x28x29 => kernel_rfl
          case hfx33bx0x15x17x26x28x29 => kernel_rfl
          case hrx33bx0x15x17x26x28x29 => kernel_rfl
          case hQx33bx0x15x17x26x28x29 => exact fun _ _ _ h => h
          case hwx33bx0x15x17x26x28x29 => rfl
          case hix33bx0x15x17x26x28x29 => exact ia.out
          simp only [Act.put, List.setIfInBounds_toArray, List.set_cons_succ, List.set_cons_zero]
          refine' wpAnyH_take (i := 34) ?h1x34bx0x15x17x26x28x29 ?hsx34bx0x15x17x26x28x29 ?hfx34bx0x15x17x26x28x29 ?hrx34bx0x15x17x26x28x29 ?hQx34bx0x15x17x26x28x29 (yieldsIf_load_at ?hwx34bx0x15x17x26x28x29 26 (.tmp 4) ?hopx34bx0x15x17x26x28x29 (w.heap.size + 1) 0 rfl B _ (fun W hW => range_row hW.2.2.1) Try.underlying26 rfl ?hix34bx0x15x17x26x28x29) hS ?restx34bx0x15x17x26x28x29
          case h1x34bx0x15x17x26x28x29 => (simp only [List.getElem?_toArray, List.getElem?_cons_succ, List.getElem?_cons_zero]; rfl)
          case hopx34bx0x15x17x26x28x29 => rfl
          case hsx34bx0x15x17x26x28x29 => kernel_rfl
          case hfx34bx0x15x17x26x28x29 => kernel_rfl
          case hrx34bx0x15x17x26x28x29 => kernel_rfl
          case hQx34bx0x15x17x26x28x29 => exact fun _ _ _ h => h
          case hwx34bx0x15x17x26x28x29 => rfl
          case hix34bx0x15x17x26x28x29 => exact ib.out
          simp only [Act.put, List.setIfInBounds_toArray, List.set_cons_succ, List.set_cons_zero]
          refine' wpAnyH_take (i := 36) ?h1x36bx0x15x17x26x28x29 ?hsx36bx0x15x17x26x28x29 ?hfx36bx0x15x17x26x28x29 ?hrx36bx0x15x17x26x28x29 ?hQx36bx0x15x17x26x28x29 (yieldsIf_load_at ?hwx36bx0x15x17x26x28x29 26 (.tmp 3) ?hopx36bx0x15x17x26x28x29 w.heap.size 0 rfl A _ (fun W hW => range_row hW.2.1) Try.underlying26 rfl ?hix36bx0x15x17x26x28x29) hS ?restx36bx0x15x17x26x28x29
          case h1x36bx0x15x17x26x28x29 => (simp only [List.getElem?_toArray, List.getElem?_cons_succ, List.getElem?_cons_zero]; rfl)
          case hopx36bx0x15x17x26x28x29 => rfl
          case hsx36bx0x15x17x26x28x29 => kernel_rfl
          case hfx36bx0x15x17x26x28x29 => kernel_rfl
          case hrx36bx0x15x17x26x28x29 => kernel_rfl
          case hQx36bx0x15x17x26x28x29 => exact fun _ _ _ h => h
          case hwx36bx0x15x17x26x28x29 => rfl
          case hix36bx0x15x17x26x28x29 => exact ia.out
          simp only [Act.put, List.setIfInBounds_toArray, List.set_cons_succ, List.set_cons_zero]
          refine' wpAnyH_take (i := 38) ?h1x38bx0x15x17x26x28x29 ?hsx38bx0x15x17x26x28x29 ?hfx38bx0x15x17x26x28x29 ?hrx38bx0x15x17x26x28x29 ?hQx38bx0x15x17x26x28x29 (yieldsIf_load_at ?hwx38bx0x15x17x26x28x29 26 (.tmp 4) ?hopx38bx0x15x17x26x28x29 (w.heap.size + 1) 0 rfl B _ (fun W hW => range_row hW.2.2.1) Try.underlying26 rfl ?hix38bx0x15x17x26x28x29) hS ?restx38bx0x15x17x26x28x29
          case h1x38bx0x15x17x26x28x29 => (simp only [List.getElem?_toArray, List.getElem?_cons_succ, List.getElem?_cons_zero]; rfl)
          case hopx38bx0x15x17x26x28x29 => rfl
          case hsx38bx0x15x17x26x28x29 => kernel_rfl
          case hfx38bx0x15x17x26x28x29 => kernel_rfl
          case hrx38bx0x15x17x26x28x29 => kernel_rfl
          case hQx38bx0x15x17x26x28x29 => exact fun _ _ _ h => h
          case hwx38bx0x15x17x26x28x29 => rfl
          case hix38bx0x15x17x26x28x29 => exact ib.out
          simp only [Act.put, List.setIfInBounds_toArray, List.set_cons_succ, List.set_cons_zero]
          refine wpAnyH_ready (rs := [35]) (by kernel_rfl) (by simp) ?_
          refine' (AllReadyH.cons ?hoc35bx0x15x17x26x28x29 (fun K hK => ?stc35bx0x15x17x26x28x29) AllReadyH.nil)
          case hoc35bx0x15x17x26x28x29 => (simp only [List.getElem?_toArray, List.getElem?_cons_succ, List.getElem?_cons_zero]; rfl)
          go_simp
          refine (S1.out Wbx0x15x17x26x28x29 hS.1).mono ?_
          rintro e Wbx0x15x17x26x28x29x35 ⟨rfl, hb⟩
          go_wp2_with fail
          refine hK.out _ _ (⟨hS.1.trans (hb.mono hS.1.size), (hb.block _ (blk_lt hS.2.1)).trans hS.2.1, (hb.block _ (blk_lt hS.2.2.1)).trans hS.2.2.1, (hb.block _ (blk_lt hS.2.2.2.1)).trans hS.2.2.2.1, (hb.block _ (blk_lt hS.2.2.2.2)).trans hS.2.2.2.2⟩) (fun hHeld => ?_)
          clear hK K
          try simp only [Act.put, List.setIfInBounds_toArray, List.set_cons_succ, List.set_cons_zero]
          clear hS
          have hS := hHeld
          clear hHeld
          clear hb
          refine wpAnyH_ready (rs := [37]) (by kernel_rfl) (by simp) ?_
          refine' (AllReadyH.cons ?hoc37bx0x15x17x26x28x29x35 (fun K hK => ?stc37bx0x15x17x26x28x29x35) AllReadyH.nil)
          case hoc37bx0x15x17x26x28x29x35 => (simp only [List.getElem?_toArray, List.getElem?_cons_succ, List.getElem?_cons_zero]; rfl)
          go_simp
          refine (AP.out Wbx0x15x17x26x28x29x35 hS.1).mono ?_
          rintro e Wbx0x15x17x26x28x29x35x37 ⟨rfl, hb⟩
          go_wp2_with fail
          refine hK.out _ _ (⟨hS.1.trans (hb.mono hS.1.size), (hb.block _ (blk_lt hS.2.1)).trans hS.2.1, (hb.block _ (blk_lt hS.2.2.1)).trans hS.2.2.1, (hb.block _ (blk_lt hS.2.2.2.1)).trans hS.2.2.2.1, (hb.block _ (blk_lt hS.2.2.2.2)).trans hS.2.2.2.2⟩) (fun hHeld => ?_)
          clear hK K
          try simp only [Act.put, List.setIfInBounds_toArray, List.set_cons_succ, List.set_cons_zero]
          clear hS
          have hS := hHeld
          clear hHeld
          clear hb
          refine wpAnyH_ready (rs := [39]) (by kernel_rfl) (by simp) ?_
          refine' (AllReadyH.cons ?hoc39bx0x15x17x26x28x29x35x37 (fun K hK => ?stc39bx0x15x17x26x28x29x35x37) AllReadyH.nil)
          case hoc39bx0x15x17x26x28x29x35x37 => (simp only [List.getElem?_toArray, List.getElem?_cons_succ, List.getElem?_cons_zero]; rfl)
          go_simp
          refine (AQ.out Wbx0x15x17x26x28x29x35x37 hS.1).mono ?_
          rintro e Wbx0x15x17x26x28x29x35x37x39 ⟨rfl, hb⟩
          go_wp2_with fail
          refine hK.out _ _ (⟨hS.1.trans (hb.mono hS.1.size), (hb.block _ (blk_lt hS.2.1)).trans hS.2.1, (hb.block _ (blk_lt hS.2.2.1)).trans hS.2.2.1, (hb.block _ (blk_lt hS.2.2.2.1)).trans hS.2.2.2.1, (hb.block _ (blk_lt hS.2.2.2.2)).trans hS.2.2.2.2⟩) (fun hHeld => ?_)
          clear hK K
          try simp only [Act.put, List.setIfInBounds_toArray, List.set_cons_succ, List.set_cons_zero]
          clear hS
          have hS := hHeld
          clear hHeld
          clear hb
          refine wpAnyH_ready (rs := [40]) (by kernel_rfl) (by simp) ?_
          refine' (AllReadyH.cons ?hoc40bx0x15x17x26x28x29x35x37x39 (fun K hK => ?stc40bx0x15x17x26x28x29x35x37x39) AllReadyH.nil)
          case hoc40bx0x15x17x26x28x29x35x37x39 => (simp only [List.getElem?_toArray, List.getElem?_cons_succ, List.getElem?_cons_zero]; rfl)
          go_simp
          refine (S2.out Wbx0x15x17x26x28x29x35x37x39 hS.1).mono ?_
          rintro e Wbx0x15x17x26x28x29x35x37x39x40 ⟨rfl, hb⟩
          go_wp2_with fail
          refine hK.out _ _ (⟨hS.1.trans (hb.mono hS.1.size), (hb.block _ (blk_lt hS.2.1)).trans hS.2.1, (hb.block _ (blk_lt hS.2.2.1)).trans hS.2.2.1, (hb.block _ (blk_lt hS.2.2.2.1)).trans hS.2.2.2.1, (hb.block _ (blk_lt hS.2.2.2.2)).trans hS.2.2.2.2⟩) (fun hHeld => ?_)
          clear hK K
          try simp only [Act.put, List.setIfInBounds_toArray, List.set_cons_succ, List.set_cons_zero]
          clear hS
          have hS := hHeld
          clear hHeld
          clear hb
          refine' wpAnyH_take (i := 41) ?h1x41bx0x15x17x26x28x29x35x37x39x40 ?hsx41bx0x15x17x26x28x29x35x37x39x40 ?hfx41bx0x15x17x26x28x29x35x37x39x40 ?hrx41bx0x15x17x26x28x29x35x37x39x40 ?hQx41bx0x15x17x26x28x29x35x37x39x40 (Or.inl ⟨?hwx41bx0x15x17x26x28x29x35x37x39x40, ?hyx41bx0x15x17x26x28x29x35x37x39x40⟩) hS ?restx41bx0x15x17x26x28x29x35x37x39x40
          case h1x41bx0x15x17x26x28x29x35x37x39x40 => (simp only [List.getElem?_toArray, List.getElem?_cons_succ, List.getElem?_cons_zero]; rfl)
          case hsx41bx0x15x17x26x28x29x35x37x39x40 => kernel_rfl
          case hfx41bx0x15x17x26x28x29x35x37x39x40 => kernel_rfl
          case hrx41bx0x15x17x26x28x29x35x37x39x40 => kernel_rfl
          case hQx41bx0x15x17x26x28x29x35x37x39x40 => exact fun _ _ _ h => h
          case hwx41bx0x15x17x26x28x29x35x37x39x40 => rfl
          case hyx41bx0x15x17x26x28x29x35x37x39x40 =>
            intro W hW
            go_simp
            try with_reducible rfl
          simp only [Act.put, List.setIfInBounds_toArray, List.set_cons_succ, List.set_cons_zero]
          refine' wpAnyH_take (i := 42) ?h1x42bx0x15x17x26x28x29x35x37x39x40 ?hsx42bx0x15x17x26x28x29x35x37x39x40 ?hfx42bx0x15x17x26x28x29x35x37x39x40 ?hrx42bx0x15x17x26x28x29x35x37x39x40 ?hQx42bx0x15x17x26x28x29x35x37x39x40 (Or.inl ⟨?hwx42bx0x15x17x26x28x29x35x37x39x40, ?hyx42bx0x15x17x26x28x29x35x37x39x40⟩) hS ?restx42bx0x15x17x26x28x29x35x37x39x40
          case h1x42bx0x15x17x26x28x29x35x37x39x40 => (simp only [List.getElem?_toArray, List.getElem?_cons_succ, List.getElem?_cons_zero]; rfl)
          case hsx42bx0x15x17x26x28x29x35x37x39x40 => kernel_rfl
          case hfx42bx0x15x17x26x28x29x35x37x39x40 => kernel_rfl
          case hrx42bx0x15x17x26x28x29x35x37x39x40 => kernel_rfl
          case hQx42bx0x15x17x26x28x29x35x37x39x40 => exact fun _ _ _ h => h
          case hwx42bx0x15x17x26x28x29x35x37x39x40 => rfl
          case hyx42bx0x15x17x26x28x29x35x37x39x40 =>
            intro W hW
            go_simp
            try with_reducible rfl
          simp only [Act.put, List.setIfInBounds_toArray, List.set_cons_succ, List.set_cons_zero]
          refine' wpAnyH_take (i := 43) ?h1x43bx0x15x17x26x28x29x35x37x39x40 ?hsx43bx0x15x17x26x28x29x35x37x39x40 ?hfx43bx0x15x17x26x28x29x35x37x39x40 ?hrx43bx0x15x17x26x28x29x35x37x39x40 ?hQx43bx0x15x17x26x28x29x35x37x39x40 (Or.inl ⟨?hwx43bx0x15x17x26x28x29x35x37x39x40, ?hyx43bx0x15x17x26x28x29x35x37x39x40⟩) hS ?restx43bx0x15x17x26x28x29x35x37x39x40
          case h1x43bx0x15x17x26x28x29x35x37x39x40 => (simp only [List.getElem?_toArray, List.getElem?_cons_succ, List.getElem?_cons_zero]; rfl)
          case hsx43bx0x15x17x26x28x29x35x37x39x40 => kernel_rfl
          case hfx43bx0x15x17x26x28x29x35x37x39x40 => kernel_rfl
          case hrx43bx0x15x17x26x28x29x35x37x39x40 => kernel_rfl
          case hQx43bx0x15x17x26x28x29x35x37x39x40 => exact fun _ _ _ h => h
          case hwx43bx0x15x17x26x28x29x35x37x39x40 => rfl
          case hyx43bx0x15x17x26x28x29x35x37x39x40 =>
            intro W hW
            go_simp
            try with_reducible rfl
          simp only [Act.put, List.setIfInBounds_toArray, List.set_cons_succ, List.set_cons_zero]
          refine' wpAnyH_take (i := 44) ?h1x44bx0x15x17x26x28x29x35x37x39x40 ?hsx44bx0x15x17x26x28x29x35x37x39x40 ?hfx44bx0x15x17x26x28x29x35x37x39x40 ?hrx44bx0x15x17x26x28x29x35x37x39x40 ?hQx44bx0x15x17x26x28x29x35x37x39x40 (yieldsIf_load_at ?hwx44bx0x15x17x26x28x29x35x37x39x40 26 (.tmp 3) ?hopx44bx0x15x17x26x28x29x35x37x39x40 w.heap.size 0 rfl A _ (fun W hW => range_row hW.2.1) Try.underlying26 rfl ?hix44bx0x15x17x26x28x29x35x37x39x40) hS ?restx44bx0x15x17x26x28x29x35x37x39x40
          case h1x44bx0x15x17x26x28x29x35x37x39x40 => (simp only [List.getElem?_toArray, List.getElem?_cons_succ, List.getElem?_cons_zero]; rfl)
          case hopx44bx0x15x17x26x28x29x35x37x39x40 => rfl
          case hsx44bx0x15x17x26x28x29x35x37x39x40 => kernel_rfl
          case hfx44bx0x15x17x26x28x29x35x37x39x40 => kernel_rfl
          case hrx44bx0x15x17x26x28x29x35x37x39x40 => kernel_rfl
          case hQx44bx0x15x17x26x28x29x35x37x39x40 => exact fun _ _ _ h => h
          case hwx44bx0x15x17x26x28x29x35x37x39x40 => rfl
          case hix44bx0x15x17x26x28x29x35x37x39x40 => exact ia.out
          simp only [Act.put, List.setIfInBounds_toArray, List.set_cons_succ, List.set_cons_zero]
          refine' wpAnyH_take (i := 46) ?h1x46bx0x15x17x26x28x29x35x37x39x40 ?hsx46bx0x15x17x26x28x29x35x37x39x40 ?hfx46bx0x15x17x26x28x29x35x37x39x40 ?hrx46bx0x15x17x26x28x29x35x37x39x40 ?hQx46bx0x15x17x26x28x29x35x37x39x40 (Or.inl ⟨?hwx46bx0x15x17x26x28x29x35x37x39x40, ?hyx46bx0x15x17x26x28x29x35x37x39x40⟩) hS ?restx46bx0x15x17x26x28x29x35x37x39x40
          case h1x46bx0x15x17x26x28x29x35x37x39x40 => (simp only [List.getElem?_toArray, List.getElem?_cons_succ, List.getElem?_cons_zero]; rfl)
          case hsx46bx0x15x17x26x28x29x35x37x39x40 => kernel_rfl
          case hfx46bx0x15x17x26x28x29x35x37x39x40 => kernel_rfl
          case hrx46bx0x15x17x26x28x29x35x37x39x40 => kernel_rfl
          case hQx46bx0x15x17x26x28x29x35x37x39x40 => exact fun _ _ _ h => h
          case hwx46bx0x15x17x26x28x29x35x37x39x40 => rfl
          case hyx46bx0x15x17x26x28x29x35x37x39x40 =>
            intro W hW
            go_simp
            try with_reducible rfl
          simp only [Act.put, List.setIfInBounds_toArray, List.set_cons_succ, List.set_cons_zero]
          refine wpAnyH_ready (rs := [45]) (by kernel_rfl) (by simp) ?_
          refine' (AllReadyH.cons ?hoc45bx0x15x17x26x28x29x35x37x39x40 (fun K hK => ?stc45bx0x15x17x26x28x29x35x37x39x40) AllReadyH.nil)
          case hoc45bx0x15x17x26x28x29x35x37x39x40 => (simp only [List.getElem?_toArray, List.getElem?_cons_succ, List.getElem?_cons_zero]; rfl)
          go_simp
          refine (BL.out Wbx0x15x17x26x28x29x35x37x39x40 hS.1).mono ?_
          rintro e Wbx0x15x17x26x28x29x35x37x39x40x45 ⟨rfl, hb⟩
          go_wp2_with fail
          refine hK.out _ _ (⟨hS.1.trans (hb.mono hS.1.size), (hb.block _ (blk_lt hS.2.1)).trans hS.2.1, (hb.block _ (blk_lt hS.2.2.1)).trans hS.2.2.1, (hb.block _ (blk_lt hS.2.2.2.1)).trans hS.2.2.2.1, (hb.block _ (blk_lt hS.2.2.2.2)).trans hS.2.2.2.2⟩) (fun hHeld => ?_)
          clear hK K
          try simp only [Act.put, List.setIfInBounds_toArray, List.set_cons_succ, List.set_cons_zero]
          clear hS
          have hS := hHeld
          clear hHeld
          clear hb
          refine' wpAnyH_take (i := 47) ?h1x47bx0x15x17x26x28x29x35x37x39x40x45 ?hsx47bx0x15x17x26x28x29x35x37x39x40x45 ?hfx47bx0x15x17x26x28x29x35x37x39x40x45 ?hrx47bx0x15x17x26x28x29x35x37x39x40x45 ?hQx47bx0x15x17x26x28x29x35x37x39x40x45 (Or.inl ⟨?hwx47bx0x15x17x26x28x29x35x37x39x40x45, ?hyx47bx0x15x17x26x28x29x35x37x39x40x45⟩) hS ?restx47bx0x15x17x26x28x29x35x37x39x40x45
          case h1x47bx0x15x17x26x28x29x35x37x39x40x45 => (simp only [List.getElem?_toArray, List.getElem?_cons_succ, List.getElem?_cons_zero]; rfl)
          case hsx47bx0x15x17x26x28x29x35x37x39x40x45 => kernel_rfl
          case hfx47bx0x15x17x26x28x29x35x37x39x40x45 => kernel_rfl
          case hrx47bx0x15x17x26x28x29x35x37x39x40x45 => kernel_rfl
          case hQx47bx0x15x17x26x28x29x35x37x39x40x45 => exact fun _ _ _ h => h
          case hwx47bx0x15x17x26x28x29x35x37x39x40x45 => rfl
          case hyx47bx0x15x17x26x28x29x35x37x39x40x45 =>
            intro W hW
            go_simp
            try with_reducible rfl
          simp only [Act.put, List.setIfInBounds_toArray, List.set_cons_succ, List.set_cons_zero]
          refine' wpAnyH_take (i := 48) ?h1x48bx0x15x17x26x28x29x35x37x39x40x45 ?hsx48bx0x15x17x26x28x29x35x37x39x40x45 ?hfx48bx0x15x17x26x28x29x35x37x39x40x45 ?hrx48bx0x15x17x26x28x29x35x37x39x40x45 ?hQx48bx0x15x17x26x28x29x35x37x39x40x45 (Or.inl ⟨?hwx48bx0x15x17x26x28x29x35x37x39x40x45, ?hyx48bx0x15x17x26x28x29x35x37x39x40x45⟩) hS ?restx48bx0x15x17x26x28x29x35x37x39x40x45
          case h1x48bx0x15x17x26x28x29x35x37x39x40x45 => (simp only [List.getElem?_toArray, List.getElem?_cons_succ, List.getElem?_cons_zero]; rfl)
          case hsx48bx0x15x17x26x28x29x35x37x39x40x45 => kernel_rfl
          case hfx48bx0x15x17x26x28x29x35x37x39x40x45 => kernel_rfl
          case hrx48bx0x15x17x26x28x29x35x37x39x40x45 => kernel_rfl
          case hQx48bx0x15x17x26x28x29x35x37x39x40x45 => exact fun _ _ _ h => h
          case hwx48bx0x15x17x26x28x29x35x37x39x40x45 => rfl
          case hyx48bx0x15x17x26x28x29x35x37x39x40x45 =>
            intro W hW
            go_simp
            try with_reducible rfl
          simp only [Act.put, List.setIfInBounds_toArray, List.set_cons_succ, List.set_cons_zero]
          refine' wpAnyH_take (i := 49) ?h1x49bx0x15x17x26x28x29x35x37x39x40x45 ?hsx49bx0x15x17x26x28x29x35x37x39x40x45 ?hfx49bx0x15x17x26x28x29x35x37x39x40x45 ?hrx49bx0x15x17x26x28x29x35x37x39x40x45 ?hQx49bx0x15x17x26x28x29x35x37x39x40x45 (Or.inl ⟨?hwx49bx0x15x17x26x28x29x35x37x39x40x45, ?hyx49bx0x15x17x26x28x29x35x37x39x40x45⟩) hS ?restx49bx0x15x17x26x28x29x35x37x39x40x45
          case h1x49bx0x15x17x26x28x29x35x37x39x40x45 => (simp only [List.getElem?_toArray, List.getElem?_cons_succ, List.getElem?_cons_zero]; rfl)
          case hsx49bx0x15x17x26x28x29x35x37x39x40x45 => kernel_rfl
          case hfx49bx0x15x17x26x28x29x35x37x39x40x45 => kernel_rfl
          case hrx49bx0x15x17x26x28x29x35x37x39x40x45 => kernel_rfl
          case hQx49bx0x15x17x26x28x29x35x37x39x40x45 => exact fun _ _ _ h => h
          case hwx49bx0x15x17x26x28x29x35x37x39x40x45 => rfl
          case hyx49bx0x15x17x26x28x29x35x37x39x40x45 =>
            intro W hW
            go_simp
            try with_reducible rfl
          simp only [Act.put, List.setIfInBounds_toArray, List.set_cons_succ, List.set_cons_zero]
          refine wpAnyH_done (by kernel_rfl) ?_ _
          go_wp2_with fail
          go_ret
          exact ⟨rfl, B11.out.trans (hS.1.mono B11.out.size)⟩
        · by_cases h4 : pk = 4
          · have e := KC4.out h4
            subst h4
            subst e
            clear KC KC5 KC4 KC0 h3 h5
            have q0 : (512 : Int) ≠ 0 := by decide
            go_upto_region 17 with (fail)
            clear CK0 CK5 CK137
            refine wp_region_held_drew (S := fun W => Below wu.heap.size wu W ∧ W.heap[w.heap.size]? = some (.cells A 26 (0, 0)) ∧ W.heap[(w.heap.size + 1)]? = some (.cells B 26 (0, 0)) ∧ W.heap[w7.heap.size]? = some (.cells C 26 (0, 0)) ∧ W.heap[wt.heap.size]? = some (.cells E 35 (0, 0))) (by kernel_rfl) (⟨(Below.refl _ _).drew, A11.out, Q11.out, C11.out, E11.out⟩) (fun hS => ?_)
            have hb0 : Below wu.heap.size wu wu.drew := (Below.refl _ _).drew
            clear hb0 
            generalize wu.drew = Wcs at hS  ⊢
            refine wpAnyH_ready (rs := [0]) (by kernel_rfl) (by simp) ?_
            refine' (AllReadyH.cons ?hoc0c (fun K hK => ?stc0c) AllReadyH.nil)
            case hoc0c => (simp only [List.getElem?_toArray, List.getElem?_cons_zero]; rfl)
            go_simp
            refine (AL.out Wcs).mono ?_
            rintro e Wcx0 ⟨rfl, hb⟩
            go_wp2_with fail
            refine hK.out _ _ (⟨hS.1.trans (hb.mono hS.1.size), (hb.block _ (blk_lt hS.2.1)).trans hS.2.1, (hb.block _ (blk_lt hS.2.2.1)).trans hS.2.2.1, (hb.block _ (blk_lt hS.2.2.2.1)).trans hS.2.2.2.1, (hb.block _ (blk_lt hS.2.2.2.2)).trans hS.2.2.2.2⟩) (fun hHeld => ?_)
            clear hK K
            try simp only [Act.put, List.setIfInBounds_toArray, List.set_cons_succ, List.set_cons_zero]
            clear hS
            have hS := hHeld
            clear hHeld
            clear hb
            refine' wpAnyH_take (i := 1) ?h1x1cx0 ?hsx1cx0 ?hfx1cx0 ?hrx1cx0 ?hQx1cx0 (Or.inl ⟨?hwx1cx0, ?hyx1cx0⟩) hS ?restx1cx0
            case h1x1cx0 => (simp only [List.getElem?_toArray, List.getElem?_cons_succ, List.getElem?_cons_zero]; rfl)
            case hsx1cx0 => kernel_rfl
            case hfx1cx0 => kernel_rfl
            case hrx1cx0 => kernel_rfl
            case hQx1cx0 => exact fun _ _ _ h => h
            case hwx1cx0 => rfl
            case hyx1cx0 =>
              intro W hW
              go_simp
              try with_reducible rfl
            simp only [Act.put, List.setIfInBounds_toArray, List.set_cons_succ, List.set_cons_zero]
            refine' wpAnyH_take (i := 2) ?h1x2cx0 ?hsx2cx0 ?hfx2cx0 ?hrx2cx0 ?hQx2cx0 (Or.inl ⟨?hwx2cx0, ?hyx2cx0⟩) hS ?restx2cx0
            case h1x2cx0 => (simp only [List.getElem?_toArray, List.getElem?_cons_succ, List.getElem?_cons_zero]; rfl)
            case hsx2cx0 => kernel_rfl
            case hfx2cx0 => kernel_rfl
            case hrx2cx0 => kernel_rfl
            case hQx2cx0 => exact fun _ _ _ h => h
            case hwx2cx0 => rfl
            case hyx2cx0 =>
              intro W hW
              go_simp
              try with_reducible rfl
            simp only [Act.put, List.setIfInBounds_toArray, List.set_cons_succ, List.set_cons_zero]
            refine' wpAnyH_take (i := 3) ?h1x3cx0 ?hsx3cx0 ?hfx3cx0 ?hrx3cx0 ?hQx3cx0 (Or.inl ⟨?hwx3cx0, ?hyx3cx0⟩) hS ?restx3cx0
            case h1x3cx0 => (simp only [List.getElem?_toArray, List.getElem?_cons_succ, List.getElem?_cons_zero]; rfl)
            case hsx3cx0 => kernel_rfl
            case hfx3cx0 => kernel_rfl
            case hrx3cx0 => kernel_rfl
            case hQx3cx0 => exact fun _ _ _ h => h
            case hwx3cx0 => rfl
            case hyx3cx0 =>
              intro W hW
              have dd := CX.out W hW.1
              go_simp
              try with_reducible rfl
            simp only [Act.put, List.setIfInBounds_toArray, List.set_cons_succ, List.set_cons_zero]
            refine' wpAnyH_take (i := 4) ?h1x4cx0 ?hsx4cx0 ?hfx4cx0 ?hrx4cx0 ?hQx4cx0 (Or.inl ⟨?hwx4cx0, ?hyx4cx0⟩) hS ?restx4cx0
            case h1x4cx0 => (simp only [List.getElem?_toArray, List.getElem?_cons_succ, List.getElem?_cons_zero]; rfl)
            case hsx4cx0 => kernel_rfl
            case hfx4cx0 => kernel_rfl
            case hrx4cx0 => kernel_rfl
            case hQx4cx0 => exact fun _ _ _ h => h
            case hwx4cx0 => rfl
            case hyx4cx0 =>
              intro W hW
              go_simp
              try with_reducible rfl
            simp only [Act.put, List.setIfInBounds_toArray, List.set_cons_succ, List.set_cons_zero]
            refine' wpAnyH_take (i := 5) ?h1x5cx0 ?hsx5cx0 ?hfx5cx0 ?hrx5cx0 ?hQx5cx0 (Or.inl ⟨?hwx5cx0, ?hyx5cx0⟩) hS ?restx5cx0
            case h1x5cx0 => (simp only [List.getElem?_toArray, List.getElem?_cons_succ, List.getElem?_cons_zero]; rfl)
            case hsx5cx0 => kernel_rfl
            case hfx5cx0 => kernel_rfl
            case hrx5cx0 => kernel_rfl
            case hQx5cx0 => exact fun _ _ _ h => h
            case hwx5cx0 => rfl
            case hyx5cx0 =>
              intro W hW
              have dd := CY.out W hW.1
              go_simp
              try with_reducible rfl
            simp only [Act.put, List.setIfInBounds_toArray, List.set_cons_succ, List.set_cons_zero]
            refine' wpAnyH_take (i := 6) ?h1x6cx0 ?hsx6cx0 ?hfx6cx0 ?hrx6cx0 ?hQx6cx0 (Or.inl ⟨?hwx6cx0, ?hyx6cx0⟩) hS ?restx6cx0
            case h1x6cx0 => (simp only [List.getElem?_toArray, List.getElem?_cons_succ, List.getElem?_cons_zero]; rfl)
            case hsx6cx0 => kernel_rfl
            case hfx6cx0 => kernel_rfl
            case hrx6cx0 => kernel_rfl
            case hQx6cx0 => exact fun _ _ _ h => h
            case hwx6cx0 => rfl
            case hyx6cx0 =>
              intro W hW
              go_simp
              try with_reducible rfl
            simp only [Act.put, List.setIfInBounds_toArray, List.set_cons_succ, List.set_cons_zero]
            refine' wpAnyH_take (i := 7) ?h1x7cx0 ?hsx7cx0 ?hfx7cx0 ?hrx7cx0 ?hQx7cx0 (Or.inl ⟨?hwx7cx0, ?hyx7cx0⟩) hS ?restx7cx0
            case h1x7cx0 => (simp only [List.getElem?_toArray, List.getElem?_cons_succ, List.getElem?_cons_zero]; rfl)
            case hsx7cx0 => kernel_rfl
            case hfx7cx0 => kernel_rfl
            case hrx7cx0 => kernel_rfl
            case hQx7cx0 => exact fun _ _ _ h => h
            case hwx7cx0 => rfl
            case hyx7cx0 =>
              intro W hW
              go_simp
              try with_reducible rfl
            simp only [Act.put, List.setIfInBounds_toArray, List.set_cons_succ, List.set_cons_zero]
            refine' wpAnyH_take (i := 8) ?h1x8cx0 ?hsx8cx0 ?hfx8cx0 ?hrx8cx0 ?hQx8cx0 (Or.inl ⟨?hwx8cx0, ?hyx8cx0⟩) hS ?restx8cx0
            case h1x8cx0 => (simp only [List.getElem?_toArray, List.getElem?_cons_succ, List.getElem?_cons_zero]; rfl)
            case hsx8cx0 => kernel_rfl
            case hfx8cx0 => kernel_rfl
            case hrx8cx0 => kernel_rfl
            case hQx8cx0 => exact fun _ _ _ h => h
            case hwx8cx0 => rfl
            case hyx8cx0 =>
              intro W hW
              go_simp
              try with_reducible rfl
            simp only [Act.put, List.setIfInBounds_toArray, List.set_cons_succ, List.set_cons_zero]
            refine' wpAnyH_take (i := 9) ?h1x9cx0 ?hsx9cx0 ?hfx9cx0 ?hrx9cx0 ?hQx9cx0 (Or.inl ⟨?hwx9cx0, ?hyx9cx0⟩) hS ?restx9cx0
            case h1x9cx0 => (simp only [List.getElem?_toArray, List.getElem?_cons_succ, List.getElem?_cons_zero]; rfl)
            case hsx9cx0 => kernel_rfl
            case hfx9cx0 => kernel_rfl
            case hrx9cx0 => kernel_rfl
            case hQx9cx0 => exact fun _ _ _ h => h
            case hwx9cx0 => rfl
            case hyx9cx0 =>
              intro W hW
              go_simp
              try with_reducible rfl
            simp only [Act.put, List.setIfInBounds_toArray, List.set_cons_succ, List.set_cons_zero]
            refine' wpAnyH_take (i := 10) ?h1x10cx0 ?hsx10cx0 ?hfx10cx0 ?hrx10cx0 ?hQx10cx0 (Or.inl ⟨?hwx10cx0, ?hyx10cx0⟩) hS ?restx10cx0
            case h1x10cx0 => (simp only [List.getElem?_toArray, List.getElem?_cons_succ, List.getElem?_cons_zero]; rfl)
            case hsx10cx0 => kernel_rfl
            case hfx10cx0 => kernel_rfl
            case hrx10cx0 => kernel_rfl
            case hQx10cx0 => exact fun _ _ _ h => h
            case hwx10cx0 => rfl
            case hyx10cx0 =>
              intro W hW
              go_simp
              try with_reducible rfl
            simp only [Act.put, List.setIfInBounds_toArray, List.set_cons_succ, List.set_cons_zero]
            refine' wpAnyH_take (i := 11) ?h1x11cx0 ?hsx11cx0 ?hfx11cx0 ?hrx11cx0 ?hQx11cx0 (Or.inl ⟨?hwx11cx0, ?hyx11cx0⟩) hS ?restx11cx0
            case h1x11cx0 => (simp only [List.getElem?_toArray, List.getElem?_cons_succ, List.getElem?_cons_zero]; rfl)
            case hsx11cx0 => kernel_rfl
            case hfx11cx0 => kernel_rfl
            case hrx11cx0 => kernel_rfl
            case hQx11cx0 => exact fun _ _ _ h => h
            case hwx11cx0 => rfl
            case hyx11cx0 =>
              intro W hW
              go_simp
              try with_reducible rfl
            simp only [Act.put, List.setIfInBounds_toArray, List.set_cons_succ, List.set_cons_zero]
            refine' wpAnyH_take (i := 12) ?h1x12cx0 ?hsx12cx0 ?hfx12cx0 ?hrx12cx0 ?hQx12cx0 (Or.inl ⟨?hwx12cx0, ?hyx12cx0⟩) hS ?restx12cx0
            case h1x12cx0 => (simp only [List.getElem?_toArray, List.getElem?_cons_succ, List.getElem?_cons_zero]; rfl)
            case hsx12cx0 => kernel_rfl
            case hfx12cx0 => kernel_rfl
            case hrx12cx0 => kernel_rfl
            case hQx12cx0 => exact fun _ _ _ h => h
            case hwx12cx0 => rfl
            case hyx12cx0 =>
              intro W hW
              go_simp
              try with_reducible rfl
            simp only [Act.put, List.setIfInBounds_toArray, List.set_cons_succ, List.set_cons_zero]
            refine' wpAnyH_take (i := 13) ?h1x13cx0 ?hsx13cx0 ?hfx13cx0 ?hrx13cx0 ?hQx13cx0 (Or.inl ⟨?hwx13cx0, ?hyx13cx0⟩) hS ?restx13cx0
            case h1x13cx0 => (simp only [List.getElem?_toArray, List.getElem?_cons_succ, List.getElem?_cons_zero]; rfl)
            case hsx13cx0 => kernel_rfl
            case hfx13cx0 => kernel_rfl
            case hrx13cx0 => kernel_rfl
            case hQx13cx0 => exact fun _ _ _ h => h
            case hwx13cx0 => rfl
            case hyx13cx0 =>
              intro W hW
              go_simp
              try with_reducible rfl
            simp only [Act.put, List.setIfInBounds_toArray, List.set_cons_succ, List.set_cons_zero]
            refine' wpAnyH_take (i := 14) ?h1x14cx0 ?hsx14cx0 ?hfx14cx0 ?hrx14cx0 ?hQx14cx0 (yieldsIf_load_at ?hwx14cx0 26 (.tmp 12) ?hopx14cx0 w7.heap.size 0 rfl C _ (fun W hW => range_row hW.2.2.2.1) Try.underlying26 rfl ?hix14cx0) hS ?restx14cx0
            case h1x14cx0 => (simp only [List.getElem?_toArray, List.getElem?_cons_succ, List.getElem?_cons_zero]; rfl)
            case hopx14cx0 => rfl
            case hsx14cx0 => kernel_rfl
            case hfx14cx0 => kernel_rfl
            case hrx14cx0 => kernel_rfl
            case hQx14cx0 => exact fun _ _ _ h => h
            case hwx14cx0 => rfl
            case hix14cx0 => exact IC.out
            simp only [Act.put, List.setIfInBounds_toArray, List.set_cons_succ, List.set_cons_zero]
            refine' wpAnyH_take (i := 16) ?h1x16cx0 ?hsx16cx0 ?hfx16cx0 ?hrx16cx0 ?hQx16cx0 (yieldsIf_load_at ?hwx16cx0 35 (.tmp 15) ?hopx16cx0 wt.heap.size 0 rfl E _ (fun W hW => range_row hW.2.2.2.2) Try.underlying35 rfl ?hix16cx0) hS ?restx16cx0
            case h1x16cx0 => (simp only [List.getElem?_toArray, List.getElem?_cons_succ, List.getElem?_cons_zero]; rfl)
            case hopx16cx0 => rfl
            case hsx16cx0 => kernel_rfl
            case hfx16cx0 => kernel_rfl
            case hrx16cx0 => kernel_rfl
            case hQx16cx0 => exact fun _ _ _ h => h
            case hwx16cx0 => rfl
            case hix16cx0 => exact IE.out
            simp only [Act.put, List.setIfInBounds_toArray, List.set_cons_succ, List.set_cons_zero]
            refine wpAnyH_ready (rs := [15]) (by kernel_rfl) (by simp) ?_
            refine' (AllReadyH.cons ?hoc15cx0 (fun K hK => ?stc15cx0) AllReadyH.nil)
            case hoc15cx0 => (simp only [List.getElem?_toArray, List.getElem?_cons_succ, List.getElem?_cons_zero]; rfl)
            go_simp
            refine (AC.out Wcx0 hS.1).mono ?_
            rintro e Wcx0x15 ⟨rfl, hb⟩
            go_wp2_with fail
            refine hK.out _ _ (⟨hS.1.trans (hb.mono hS.1.size), (hb.block _ (blk_lt hS.2.1)).trans hS.2.1, (hb.block _ (blk_lt hS.2.2.1)).trans hS.2.2.1, (hb.block _ (blk_lt hS.2.2.2.1)).trans hS.2.2.2.1, (hb.block _ (blk_lt hS.2.2.2.2)).trans hS.2.2.2.2⟩) (fun hHeld => ?_)
            clear hK K
            try simp only [Act.put, List.setIfInBounds_toArray, List.set_cons_succ, List.set_cons_zero]
            clear hS
            have hS := hHeld
            clear hHeld
            clear hb
            refine wpAnyH_ready (rs := [17]) (by kernel_rfl) (by simp) ?_
            refine' (AllReadyH.cons ?hoc17cx0x15 (fun K hK => ?stc17cx0x15) AllReadyH.nil)
            case hoc17cx0x15 => (simp only [List.getElem?_toArray, List.getElem?_cons_succ, List.getElem?_cons_zero]; rfl)
            go_simp
            refine (SD.out Wcx0x15 hS.1).mono ?_
            rintro e Wcx0x15x17 ⟨rfl, hb⟩
            go_wp2_with fail
            refine hK.out _ _ (⟨hS.1.trans (hb.mono hS.1.size), (hb.block _ (blk_lt hS.2.1)).trans hS.2.1, (hb.block _ (blk_lt hS.2.2.1)).trans hS.2.2.1, (hb.block _ (blk_lt hS.2.2.2.1)).trans hS.2.2.2.1, (hb.block _ (blk_lt hS.2.2.2.2)).trans hS.2.2.2.2⟩) (fun hHeld => ?_)
            clear hK K
            try simp only [Act.put, List.setIfInBounds_toArray, List.set_cons_succ, List.set_cons_zero]
            clear hS
            have hS := hHeld
            clear hHeld
            clear hb
            refine' wpAnyH_take (i := 18) ?h1x18cx0x15x17 ?hsx18cx0x15x17 ?hfx18cx0x15x17 ?hrx18cx0x15x17 ?hQx18cx0x15x17 (Or.inl ⟨?hwx18cx0x15x17, ?hyx18cx0x15x17⟩) hS ?restx18cx0x15x17
            case h1x18cx0x15x17 => (simp only [List.getElem?_toArray, List.getElem?_cons_succ, List.getElem?_cons_zero]; rfl)
            case hsx18cx0x15x17 => kernel_rfl
            case hfx18cx0x15x17 => kernel_rfl
            case hrx18cx0x15x17 => kernel_rfl
            case hQx18cx0x15x17 => exact fun _ _ _ h => h
            case hwx18cx0x15x17 => rfl
            case hyx18cx0x15x17 =>
              intro W hW
              go_simp
              try with_reducible rfl
            simp only [Act.put, List.setIfInBounds_toArray, List.set_cons_succ, List.set_cons_zero]
            refine' wpAnyH_take (i := 19) ?h1x19cx0x15x17 ?hsx19cx0x15x17 ?hfx19cx0x15x17 ?hrx19cx0x15x17 ?hQx19cx0x15x17 (Or.inl ⟨?hwx19cx0x15x17, ?hyx19cx0x15x17⟩) hS ?restx19cx0x15x17
            case h1x19cx0x15x17 => (simp only [List.getElem?_toArray, List.getElem?_cons_succ, List.getElem?_cons_zero]; rfl)
            case hsx19cx0x15x17 => kernel_rfl
            case hfx19cx0x15x17 => kernel_rfl
            case hrx19cx0x15x17 => kernel_rfl
            case hQx19cx0x15x17 => exact fun _ _ _ h => h
            case hwx19cx0x15x17 => rfl
            case hyx19cx0x15x17 =>
              intro W hW
              go_simp
              try with_reducible rfl
            simp only [Act.put, List.setIfInBounds_toArray, List.set_cons_succ, List.set_cons_zero]
            refine' wpAnyH_take (i := 20) ?h1x20cx0x15x17 ?hsx20cx0x15x17 ?hfx20cx0x15x17 ?hrx20cx0x15x17 ?hQx20cx0x15x17 (Or.inl ⟨?hwx20cx0x15x17, ?hyx20cx0x15x17⟩) hS ?restx20cx0x15x17
            case h1x20cx0x15x17 => (simp only [List.getElem?_toArray, List.getElem?_cons_succ, List.getElem?_cons_zero]; rfl)
            case hsx20cx0x15x17 => kernel_rfl
            case hfx20cx0x15x17 => kernel_rfl
            case hrx20cx0x15x17 => kernel_rfl
            case hQx20cx0x15x17 => exact fun _ _ _ h => h
            case hwx20cx0x15x17 => rfl
            case hyx20cx0x15x17 =>
              intro W hW
              go_simp
              try with_reducible rfl
            simp only [Act.put, List.setIfInBounds_toArray, List.set_cons_succ, List.set_cons_zero]
            refine' wpAnyH_take (i := 21) ?h1x21cx0x15x17 ?hsx21cx0x15x17 ?hfx21cx0x15x17 ?hrx21cx0x15x17 ?hQx21cx0x15x17 (Or.inl ⟨?hwx21cx0x15x17, ?hyx21cx0x15x17⟩) hS ?restx21cx0x15x17
            case h1x21cx0x15x17 => (simp only [List.getElem?_toArray, List.getElem?_cons_succ, List.getElem?_cons_zero]; rfl)
            case hsx21cx0x15x17 => kernel_rfl
            case hfx21cx0x15x17 => kernel_rfl
            case hrx21cx0x15x17 => kernel_rfl
            case hQx21cx0x15x17 => exact fun _ _ _ h => h
            case hwx21cx0x15x17 => rfl
            case hyx21cx0x15x17 =>
              intro W hW
              go_simp
              try with_reducible rfl
            simp only [Act.put, List.setIfInBounds_toArray, List.set_cons_succ, List.set_cons_zero]
            refine' wpAnyH_take (i := 22) ?h1x22cx0x15x17 ?hsx22cx0x15x17 ?hfx22cx0x15x17 ?hrx22cx0x15x17 ?hQx22cx0x15x17 (Or.inl ⟨?hwx22cx0x15x17, ?hyx22cx0x15x17⟩) hS ?restx22cx0x15x17
            case h1x22cx0x15x17 => (simp only [List.getElem?_toArray, List.getElem?_cons_succ, List.getElem?_cons_zero]; rfl)
            case hsx22cx0x15x17 => kernel_rfl
            case hfx22cx0x15x17 => kernel_rfl
            case hrx22cx0x15x17 => kernel_rfl
            case hQx22cx0x15x17 => exact fun _ _ _ h => h
            case hwx22cx0x15x17 => rfl
            case hyx22cx0x15x17 =>
              intro W hW
              go_simp
              try with_reducible rfl
            simp only [Act.put, List.setIfInBounds_toArray, List.set_cons_succ, List.set_cons_zero]
            refine' wpAnyH_take (i := 23) ?h1x23cx0x15x17 ?hsx23cx0x15x17 ?hfx23cx0x15x17 ?hrx23cx0x15x17 ?hQx23cx0x15x17 (Or.inl ⟨?hwx23cx0x15x17, ?hyx23cx0x15x17⟩) hS ?restx23cx0x15x17
            case h1x23cx0x15x17 => (simp only [List.getElem?_toArray, List.getElem?_cons_succ, List.getElem?_cons_zero]; rfl)
            case hsx23cx0x15x17 => kernel_rfl
            case hfx23cx0x15x17 => kernel_rfl
            case hrx23cx0x15x17 => kernel_rfl
            case hQx23cx0x15x17 => exact fun _ _ _ h => h
            case hwx23cx0x15x17 => rfl
            case hyx23cx0x15x17 =>
              intro W hW
              go_simp
              try with_reducible rfl
            simp only [Act.put, List.setIfInBounds_toArray, List.set_cons_succ, List.set_cons_zero]
            refine' wpAnyH_take (i := 24) ?h1x24cx0x15x17 ?hsx24cx0x15x17 ?hfx24cx0x15x17 ?hrx24cx0x15x17 ?hQx24cx0x15x17 (Or.inl ⟨?hwx24cx0x15x17, ?hyx24cx0x15x17⟩) hS ?restx24cx0x15x17
            case h1x24cx0x15x17 => (simp only [List.getElem?_toArray, List.getElem?_cons_succ, List.getElem?_cons_zero]; rfl)
            case hsx24cx0x15x17 => kernel_rfl
            case hfx24cx0x15x17 => kernel_rfl
            case hrx24cx0x15x17 => kernel_rfl
            case hQx24cx0x15x17 => exact fun _ _ _ h => h
            case hwx24cx0x15x17 => rfl
            case hyx24cx0x15x17 =>
              intro W hW
              go_simp
              try with_reducible rfl
            simp only [Act.put, List.setIfInBounds_toArray, List.set_cons_succ, List.set_cons_zero]
            refine' wpAnyH_take (i := 25) ?h1x25cx0x15x17 ?hsx25cx0x15x17 ?hfx25cx0x15x17 ?hrx25cx0x15x17 ?hQx25cx0x15x17 (yieldsIf_load_at ?hwx25cx0x15x17 26 (.tmp 3) ?hopx25cx0x15x17 w.heap.size 0 rfl A _ (fun W hW => range_row hW.2.1) Try.underlying26 rfl ?hix25cx0x15x17) hS ?restx25cx0x15x17
            case h1x25cx0x15x17 => (simp only [List.getElem?_toArray, List.getElem?_cons_succ, List.getElem?_cons_zero]; rfl)
            case hopx25cx0x15x17 => rfl
            case hsx25cx0x15x17 => kernel_rfl
            case hfx25cx0x15x17 => kernel_rfl
            case hrx25cx0x15x17 => kernel_rfl
            case hQx25cx0x15x17 => exact fun _ _ _ h => h
            case hwx25cx0x15x17 => rfl
            case hix25cx0x15x17 => exact ia.out
            simp only [Act.put, List.setIfInBounds_toArray, List.set_cons_succ, List.set_cons_zero]
            refine' wpAnyH_take (i := 27) ?h1x27cx0x15x17 ?hsx27cx0x15x17 ?hfx27cx0x15x17 ?hrx27cx0x15x17 ?hQx27cx0x15x17 (yieldsIf_load_at ?hwx27cx0x15x17 26 (.tmp 3) ?hopx27cx0x15x17 w.heap.size 0 rfl A _ (fun W hW => range_row hW.2.1) Try.underlying26 rfl ?hix27cx0x15x17) hS ?restx27cx0x15x17
            case h1x27cx0x15x17 => (simp only [List.getElem?_toArray, List.getElem?_cons_succ, List.getElem?_cons_zero]; rfl)
            case hopx27cx0x15x17 => rfl
            case hsx27cx0x15x17 => kernel_rfl
            case hfx27cx0x15x17 => kernel_rfl
            case hrx27cx0x15x17 => kernel_rfl
            case hQx27cx0x15x17 => exact fun _ _ _ h => h
            case hwx27cx0x15x17 => rfl
            case hix27cx0x15x17 => exact ia.out
            simp only [Act.put, List.setIfInBounds_toArray, List.set_cons_succ, List.set_cons_zero]
            refine wpAnyH_ready (rs := [26]) (by kernel_rfl) (by simp) ?_
            refine' (AllReadyH.cons ?hoc26cx0x15x17 (fun K hK => ?stc26cx0x15x17) AllReadyH.nil)
            case hoc26cx0x15x17 => (simp only [List.getElem?_toArray, List.getElem?_cons_succ, List.getElem?_cons_zero]; rfl)
            go_simp
            refine (R1.out Wcx0x15x17 hS.1).mono ?_
            rintro e Wcx0x15x17x26 ⟨rfl, hb⟩
            go_wp2_with fail
            refine hK.out _ _ (⟨hS.1.trans (hb.mono hS.1.size), (hb.block _ (blk_lt hS.2.1)).trans hS.2.1, (hb.block _ (blk_lt hS.2.2.1)).trans hS.2.2.1, (hb.block _ (blk_lt hS.2.2.2.1)).trans hS.2.2.2.1, (hb.block _ (blk_lt hS.2.2.2.2)).trans hS.2.2.2.2⟩) (fun hHeld => ?_)
            clear hK K
            try simp only [Act.put, List.setIfInBounds_toArray, List.set_cons_succ, List.set_cons_zero]
            clear hS
            have hS := hHeld
            clear hHeld
            clear hb
            refine wpAnyH_ready (rs := [28]) (by kernel_rfl) (by simp) ?_
            refine' (AllReadyH.cons ?hoc28cx0x15x17x26 (fun K hK => ?stc28cx0x15x17x26) AllReadyH.nil)
            case hoc28cx0x15x17x26 => (simp only [List.getElem?_toArray, List.getElem?_cons_succ, List.getElem?_cons_zero]; rfl)
            go_simp
            refine (AP.out Wcx0x15x17x26 hS.1).mono ?_
            rintro e Wcx0x15x17x26x28 ⟨rfl, hb⟩
            go_wp2_with fail
            refine hK.out _ _ (⟨hS.1.trans (hb.mono hS.1.size), (hb.block _ (blk_lt hS.2.1)).trans hS.2.1, (hb.block _ (blk_lt hS.2.2.1)).trans hS.2.2.1, (hb.block _ (blk_lt hS.2.2.2.1)).trans hS.2.2.2.1, (hb.block _ (blk_lt hS.2.2.2.2)).trans hS.2.2.2.2⟩) (fun hHeld => ?_)
            clear hK K
            try simp only [Act.put, List.setIfInBounds_toArray, List.set_cons_succ, List.set_cons_zero]
            clear hS
            have hS := hHeld
            clear hHeld
            clear hb
            refine wpAnyH_ready (rs := [29]) (by kernel_rfl) (by simp) ?_
            refine' (AllReadyH.cons ?hoc29cx0x15x17x26x28 (fun K hK => ?stc29cx0x15x17x26x28) AllReadyH.nil)
            case hoc29cx0x15x17x26x28 => (simp only [List.getElem?_toArray, List.getElem?_cons_succ, List.getElem?_cons_zero]; rfl)
            go_simp
            refine (R2.out Wcx0x15x17x26x28 hS.1).mono ?_
            rintro e Wcx0x15x17x26x28x29 ⟨rfl, hb⟩
            go_wp2_with fail
            refine hK.out _ _ (⟨hS.1.trans (hb.mono hS.1.size), (hb.block _ (blk_lt hS.2.1)).trans hS.2.1, (hb.block _ (blk_lt hS.2.2.1)).trans hS.2.2.1, (hb.block _ (blk_lt hS.2.2.2.1)).trans hS.2.2.2.1, (hb.block _ (blk_lt hS.2.2.2.2)).trans hS.2.2.2.2⟩) (fun hHeld => ?_)
            clear hK K
            try simp only [Act.put, List.setIfInBounds_toArray, List.set_cons_succ, List.set_cons_zero]
            clear hS
            have hS := hHeld
            clear hHeld
            clear hb
            refine' wpAnyH_take (i := 30) ?h1x30cx0x15x17x26x28x29 ?hsx30cx0x15x17x26x28x29 ?hfx30cx0x15x17x26x28x29 ?hrx30cx0x15x17x26x28x29 ?hQx30cx0x15x17x26x28x29 (Or.inl ⟨?hwx30cx0x15x17x26x28x29, ?hyx30cx0x15x17x26x28x29⟩) hS ?restx30cx0x15x17x26x28x29
            case h1x30cx0x15x17x26x28x29 => (simp only [List.getElem?_toArray, List.getElem?_cons_succ, List.getElem?_cons_zero]; rfl)
            case hsx30cx0x15x17x26x28x29 => kernel_rfl
            case hfx30cx0x15x17x26x28x29 => kernel_rfl
            case hrx30cx0x15x17x26x28x29 => kernel_rfl
            case hQx30cx0x15x17x26x28x29 => exact fun _ _ _ h => h
            case hwx30cx0x15x17x26x28x29 => rfl
            case hyx30cx0x15x17x26x28x29 =>
              intro W hW
              go_simp
              try with_reducible rfl
            simp only [Act.put, List.setIfInBounds_toArray, List.set_cons_succ, List.set_cons_zero]
            refine' wpAnyH_take (i := 31) ?h1x31cx0x15x17x26x28x29 ?hsx31cx0x15x17x26x28x29 ?hfx31cx0x15x17x26x28x29 ?hrx31cx0x15x17x26x28x29 ?hQx31cx0x15x17x26x28x29 (Or.inl ⟨?hwx31cx0x15x17x26x28x29, ?hyx31cx0x15x17x26x28x29⟩) hS ?restx31cx0x15x17x26x28x29
            case h1x31cx0x15x17x26x28x29 => (simp only [List.getElem?_toArray, List.getElem?_cons_succ, List.getElem?_cons_zero]; rfl)
            case hsx31cx0x15x17x26x28x29 => kernel_rfl
            case hfx31cx0x15x17x26x28x29 => kernel_rfl
            case hrx31cx0x15x17x26x28x29 => kernel_rfl
            case hQx31cx0x15x17x26x28x29 => exact fun _ _ _ h => h
            case hwx31cx0x15x17x26x28x29 => rfl
            case hyx31cx0x15x17x26x28x29 =>
              intro W hW
              go_simp
              try with_reducible rfl
            simp only [Act.put, List.setIfInBounds_toArray, List.set_cons_succ, List.set_cons_zero]
            refine' wpAnyH_take (i := 32) ?h1x32cx0x15x17x26x28x29 ?hsx32cx0x15x17x26x28x29 ?hfx32cx0x15x17x26x28x29 ?hrx32cx0x15x17x26x28x29 ?hQx32cx0x15x17x26x28x29 (Or.inl ⟨?hwx32cx0x15x17x26x28x29, ?hyx32cx0x15x17x26x28x29⟩) hS ?restx32cx0x15x17x26x28x29
            case h1x32cx0x15x17x26x28x29 => (simp only [List.getElem?_toArray, List.getElem?_cons_succ, List.getElem?_cons_zero]; rfl)
            case hsx32cx0x15x17x26x28x29 => kernel_rfl
            case hfx32cx0x15x17x26x28x29 => kernel_rfl
            case hrx32cx0x15x17x26x28x29 => kernel_rfl
            case hQx32cx0x15x17x26x28x29 => exact fun _ _ _ h => h
            case hwx32cx0x15x17x26x28x29 => rfl
            case hyx32cx0x15x17x26x28x29 =>
              intro W hW
              go_simp
              try with_reducible rfl
            simp only [Act.put, List.setIfInBounds_toArray, List.set_cons_succ, List.set_cons_zero]
            refine' wpAnyH_take (i := 33) ?h1x33cx0x15x17x26x28x29 ?hsx33cx0x15x17x26x28x29 ?hfx33cx0x15x17x26x28x29 ?hrx33cx0x15x17x26x28x29 ?hQx33cx0x15x17x26x28x29 (yieldsIf_load_at ?hwx33cx0x15x17x26x28x29 26 (.tmp 3) ?hopx33cx0x15x17x26x28x29 w.heap.size 0 rfl A _ (fun W hW => range_row hW.2.1) Try.underlying26 rfl ?hix33cx0x15x17x26x28x29) hS ?restx33cx0x15x17x26x28x29
            case h1x33cx0x15x17x26x28x29 => (simp only [List.getElem?_toArray, List.getElem?_cons_succ, List.getElem?_cons_zero]; rfl)
            case hopx33cx0x15x17x26x28x29 => rfl
            case hsx33cx0x15x17x26x28x29 => kernel_rfl
            case hfx33cx0x15x17x26x28x29 => kernel_rfl
            case hrx33cx0x15x17x26x28x29 => kernel_rfl
            case hQx33cx0x15x17x26x28x29 => exact fun _ _ _ h => h
            case hwx33cx0x15x17x26x28x29 => rfl
            case hix33cx0x15x17x26x28x29 => exact ia.out
            simp only [Act.put, List.setIfInBounds_toArray, List.set_cons_succ, List.set_cons_zero]
            refine' wpAnyH_take (i := 34) ?h1x34cx0x15x17x26x28x29 ?hsx34cx0x15x17x26x28x29 ?hfx34cx0x15x17x26x28x29 ?hrx34cx0x15x17x26x28x29 ?hQx34cx0x15x17x26x28x29 (yieldsIf_load_at ?hwx34cx0x15x17x26x28x29 26 (.tmp 4) ?hopx34cx0x15x17x26x28x29 (w.heap.size + 1) 0 rfl B _ (fun W hW => range_row hW.2.2.1) Try.underlying26 rfl ?hix34cx0x15x17x26x28x29) hS ?restx34cx0x15x17x26x28x29
            case h1x34cx0x15x17x26x28x29 => (simp only [List.getElem?_toArray, List.getElem?_cons_succ, List.getElem?_cons_zero]; rfl)
            case hopx34cx0x15x17x26x28x29 => rfl
            case hsx34cx0x15x17x26x28x29 => kernel_rfl
            case hfx34cx0x15x17x26x28x29 => kernel_rfl
            case hrx34cx0x15x17x26x28x29 => kernel_rfl
            case hQx34cx0x15x17x26x28x29 => exact fun _ _ _ h => h
            case hwx34cx0x15x17x26x28x29 => rfl
            case hix34cx0x15x17x26x28x29 => exact ib.out
            simp only [Act.put, List.setIfInBounds_toArray, List.set_cons_succ, List.set_cons_zero]
            refine' wpAnyH_take (i := 36) ?h1x36cx0x15x17x26x28x29 ?hsx36cx0x15x17x26x28x29 ?hfx36cx0x15x17x26x28x29 ?hrx36cx0x15x17x26x28x29 ?hQx36cx0x15x17x26x28x29 (yieldsIf_load_at ?hwx36cx0x15x17x26x28x29 26 (.tmp 3) ?hopx36cx0x15x17x26x28x29 w.heap.size 0 rfl A _ (fun W hW => range_row hW.2.1) Try.underlying26 rfl ?hix36cx0x15x17x26x28x29) hS ?restx36cx0x15x17x26x28x29
            case h1x36cx0x15x17x26x28x29 => (simp only [List.getElem?_toArray, List.getElem?_cons_succ, List.getElem?_cons_zero]; rfl)
            case hopx36cx0x15x17x26x28x29 => rfl
            case hsx36cx0x15x17x26x28x29 => kernel_rfl
            case hfx36cx0x15x17x26x28x29 => kernel_rfl
            case hrx36cx0x15x17x26x28x29 => kernel_rfl
            case hQx36cx0x15x17x26x28x29 => exact fun _ _ _ h => h
            case hwx36cx0x15x17x26x28x29 => rfl
            case hix36cx0x15x17x26x28x29 => exact ia.out
            simp only [Act.put, List.setIfInBounds_toArray, List.set_cons_succ, List.set_cons_zero]
            refine' wpAnyH_take (i := 38) ?h1x38cx0x15x17x26x28x29 ?hsx38cx0x15x17x26x28x29 ?hfx38cx0x15x17x26x28x29 ?hrx38cx0x15x17x26x28x29 ?hQx38cx0x15x17x26x28x29 (yieldsIf_load_at ?hwx38cx0x15x17x26x28x29 26 (.tmp 4) ?hopx38cx0x15x17x26x28x29 (w.heap.size + 1) 0 rfl B _ (fun W hW => range_row hW.2.2.1) Try.underlying26 rfl ?hix38cx0x15x17x26x28x29) hS ?restx38cx0x15x17x26x28x29
            case h1x38cx0x15x17x26x28x29 => (simp only [List.getElem?_toArray, List.getElem?_cons_succ, List.getElem?_cons_zero]; rfl)
            case hopx38cx0x15x17x26x28x29 => rfl
            case hsx38cx0x15x17x26x28x29 => kernel_rfl
            case hfx38cx0x15x17x26x28x29 => kernel_rfl
            case hrx38cx0x15x17x26x28x29 => kernel_rfl
            case hQx38cx0x15x17x26x28x29 => exact fun _ _ _ h => h
            case hwx38cx0x15x17x26x28x29 => rfl
            case hix38cx0x15x17x26x28x29 => exact ib.out
            simp only [Act.put, List.setIfInBounds_toArray, List.set_cons_succ, List.set_cons_zero]
            refine wpAnyH_ready (rs := [35]) (by kernel_rfl) (by simp) ?_
            refine' (AllReadyH.cons ?hoc35cx0x15x17x26x28x29 (fun K hK => ?stc35cx0x15x17x26x28x29) AllReadyH.nil)
            case hoc35cx0x15x17x26x28x29 => (simp only [List.getElem?_toArray, List.getElem?_cons_succ, List.getElem?_cons_zero]; rfl)
            go_simp
            refine (S1.out Wcx0x15x17x26x28x29 hS.1).mono ?_
            rintro e Wcx0x15x17x26x28x29x35 ⟨rfl, hb⟩
            go_wp2_with fail
            refine hK.out _ _ (⟨hS.1.trans (hb.mono hS.1.size), (hb.block _ (blk_lt hS.2.1)).trans hS.2.1, (hb.block _ (blk_lt hS.2.2.1)).trans hS.2.2.1, (hb.block _ (blk_lt hS.2.2.2.1)).trans hS.2.2.2.1, (hb.block _ (blk_lt hS.2.2.2.2)).trans hS.2.2.2.2⟩) (fun hHeld => ?_)
            clear hK K
            try simp only [Act.put, List.setIfInBounds_toArray, List.set_cons_succ, List.set_cons_zero]
            clear hS
            have hS := hHeld
            clear hHeld
            clear hb
            refine wpAnyH_ready (rs := [37]) (by kernel_rfl) (by simp) ?_
            refine' (AllReadyH.cons ?hoc37cx0x15x17x26x28x29x35 (fun K hK => ?stc37cx0x15x17x26x28x29x35) AllReadyH.nil)
            case hoc37cx0x15x17x26x28x29x35 => (simp only [List.getElem?_toArray, List.getElem?_cons_succ, List.getElem?_cons_zero]; rfl)
            go_simp
            refine (AP.out Wcx0x15x17x26x28x29x35 hS.1).mono ?_
            rintro e Wcx0x15x17x26x28x29x35x37 ⟨rfl, hb⟩
            go_wp2_with fail
            refine hK.out _ _ (⟨hS.1.trans (hb.mono hS.1.size), (hb.block _ (blk_lt hS.2.1)).trans hS.2.1, (hb.block _ (blk_lt hS.2.2.1)).trans hS.2.2.1, (hb.block _ (blk_lt hS.2.2.2.1)).trans hS.2.2.2.1, (hb.block _ (blk_lt hS.2.2.2.2)).trans hS.2.2.2.2⟩) (fun hHeld => ?_)
            clear hK K
            try simp only [Act.put, List.setIfInBounds_toArray, List.set_cons_succ, List.set_cons_zero]
            clear hS
            have hS := hHeld
            clear hHeld
            clear hb
            refine wpAnyH_ready (rs := [39]) (by kernel_rfl) (by simp) ?_
            refine' (AllReadyH.cons ?hoc39cx0x15x17x26x28x29x35x37 (fun K hK => ?stc39cx0x15x17x26x28x29x35x37) AllReadyH.nil)
            case hoc39cx0x15x17x26x28x29x35x37 => (simp only [List.getElem?_toArray, List.getElem?_cons_succ, List.getElem?_cons_zero]; rfl)
            go_simp
            refine (AQ.out Wcx0x15x17x26x28x29x35x37 hS.1).mono ?_
            rintro e Wcx0x15x17x26x28x29x35x37x39 ⟨rfl, hb⟩
            go_wp2_with fail
            refine hK.out _ _ (⟨hS.1.trans (hb.mono hS.1.size), (hb.block _ (blk_lt hS.2.1)).trans hS.2.1, (hb.block _ (blk_lt hS.2.2.1)).trans hS.2.2.1, (hb.block _ (blk_lt hS.2.2.2.1)).trans hS.2.2.2.1, (hb.block _ (blk_lt hS.2.2.2.2)).trans hS.2.2.2.2⟩) (fun hHeld => ?_)
            clear hK K
            try simp only [Act.put, List.setIfInBounds_toArray, List.set_cons_succ, List.set_cons_zero]
            clear hS
            have hS := hHeld
            clear hHeld
            clear hb
            refine wpAnyH_ready (rs := [40]) (by kernel_rfl) (by simp) ?_
            refine' (AllReadyH.cons ?hoc40cx0x15x17x26x28x29x35x37x39 (fun K hK => ?stc40cx0x15x17x26x28x29x35x37x39) AllReadyH.nil)
            case hoc40cx0x15x17x26x28x29x35x37x39 => (simp only [List.getElem?_toArray, List.getElem?_cons_succ, List.getElem?_cons_zero]; rfl)
            go_simp
            refine (S2.out Wcx0x15x17x26x28x29x35x37x39 hS.1).mono ?_
            rintro e Wcx0x15x17x26x28x29x35x37x39x40 ⟨rfl, hb⟩
            go_wp2_with fail
            refine hK.out _ _ (⟨hS.1.trans (hb.mono hS.1.size), (hb.block _ (blk_lt hS.2.1)).trans hS.2.1, (hb.block _ (blk_lt hS.2.2.1)).trans hS.2.2.1, (hb.block _ (blk_lt hS.2.2.2.1)).trans hS.2.2.2.1, (hb.block _ (blk_lt hS.2.2.2.2)).trans hS.2.2.2.2⟩) (fun hHeld => ?_)
            clear hK K
            try simp only [Act.put, List.setIfInBounds_toArray, List.set_cons_succ, List.set_cons_zero]
            clear hS
            have hS := hHeld
            clear hHeld
            clear hb
            refine' wpAnyH_take (i := 41) ?h1x41cx0x15x17x26x28x29x35x37x39x40 ?hsx41cx0x15x17x26x28x29x35x37x39x40 ?hfx41cx0x15x17x26x28x29x35x37x39x40 ?hrx41cx0x15x17x26x28x29x35x37x39x40 ?hQx41cx0x15x17x26x28x29x35x37x39x40 (Or.inl ⟨?hwx41cx0x15x17x26x28x29x35x37x39x40, ?hyx41cx0x15x17x26x28x29x35x37x39x40⟩) hS ?restx41cx0x15x17x26x28x29x35x37x39x40
            case h1x41cx0x15x17x26x28x29x35x37x39x40 => (simp only [List.getElem?_toArray, List.getElem?_cons_succ, List.getElem?_cons_zero]; rfl)
            case hsx41cx0x15x17x26x28x29x35x37x39x40 => kernel_rfl
            case hfx41cx0x15x17x26x28x29x35x37x39x40 => kernel_rfl
            case hrx41cx0x15x17x26x28x29x35x37x39x40 => kernel_rfl
            case hQx41cx0x15x17x26x28x29x35x37x39x40 => exact fun _ _ _ h => h
            case hwx41cx0x15x17x26x28x29x35x37x39x40 => rfl
            case hyx41cx0x15x17x26x28x29x35x37x39x40 =>
              intro W hW
              go_simp
              try with_reducible rfl
            simp only [Act.put, List.setIfInBounds_toArray, List.set_cons_succ, List.set_cons_zero]
            refine' wpAnyH_take (i := 42) ?h1x42cx0x15x17x26x28x29x35x37x39x40 ?hsx42cx0x15x17x26x28x29x35x37x39x40 ?hfx42cx0x15x17x26x28x29x35x37x39x40 ?hrx42cx0x15x17x26x28x29x35x37x39x40 ?hQx42cx0x15x17x26x28x29x35x37x39x40 (Or.inl ⟨?hwx42cx0x15x17x26x28x29x35x37x39x40, ?hyx42cx0x15x17x26x28x29x35x37x39x40⟩) hS ?restx42cx0x15x17x26x28x29x35x37x39x40
            case h1x42cx0x15x17x26x28x29x35x37x39x40 => (simp only [List.getElem?_toArray, List.getElem?_cons_succ, List.getElem?_cons_zero]; rfl)
            case hsx42cx0x15x17x26x28x29x35x37x39x40 => kernel_rfl
            case hfx42cx0x15x17x26x28x29x35x37x39x40 => kernel_rfl
            case hrx42cx0x15x17x26x28x29x35x37x39x40 => kernel_rfl
            case hQx42cx0x15x17x26x28x29x35x37x39x40 => exact fun _ _ _ h => h
            case hwx42cx0x15x17x26x28x29x35x37x39x40 => rfl
            case hyx42cx0x15x17x26x28x29x35x37x39x40 =>
              intro W hW
              go_simp
              try with_reducible rfl
            simp only [Act.put, List.setIfInBounds_toArray, List.set_cons_succ, List.set_cons_zero]
            refine' wpAnyH_take (i := 43) ?h1x43cx0x15x17x26x28x29x35x37x39x40 ?hsx43cx0x15x17x26x28x29x35x37x39x40 ?hfx43cx0x15x17x26x28x29x35x37x39x40 ?hrx43cx0x15x17x26x28x29x35x37x39x40 ?hQx43cx0x15x17x26x28x29x35x37x39x40 (Or.inl ⟨?hwx43cx0x15x17x26x28x29x35x37x39x40, ?hyx43cx0x15x17x26x28x29x35x37x39x40⟩) hS ?restx43cx0x15x17x26x28x29x35x37x39x40
            case h1x43cx0x15x17x26x28x29x35x37x39x40 => (simp only [List.getElem?_toArray, List.getElem?_cons_succ, List.getElem?_cons_zero]; rfl)
            case hsx43cx0x15x17x26x28x29x35x37x39x40 => kernel_rfl
            case hfx43cx0x15x17x26x28x29x35x37x39x40 => kernel_rfl
            case hrx43cx0x15x17x26x28x29x35x37x39x40 => kernel_rfl
            case hQx43cx0x15x17x26x28x29x35x37x39x40 => exact fun _ _ _ h => h
            case hwx43cx0x15x17x26x28x29x35x37x39x40 => rfl
            case hyx43cx0x15x17x26x28x29x35x37x39x40 =>
              intro W hW
              go_simp
              try with_reducible rfl
            simp only [Act.put, List.setIfInBounds_toArray, List.set_cons_succ, List.set_cons_zero]
            refine' wpAnyH_take (i := 44) ?h1x44cx0x15x17x26x28x29x35x37x39x40 ?hsx44cx0x15x17x26x28x29x35x37x39x40 ?hfx44cx0x15x17x26x28x29x35x37x39x40 ?hrx44cx0x15x17x26x28x29x35x37x39x40 ?hQx44cx0x15x17x26x28x29x35x37x39x40 (yieldsIf_load_at ?hwx44cx0x15x17x26x28x29x35x37x39x40 26 (.tmp 3) ?hopx44cx0x15x17x26x28x29x35x37x39x40 w.heap.size 0 rfl A _ (fun W hW => range_row hW.2.1) Try.underlying26 rfl ?hix44cx0x15x17x26x28x29x35x37x39x40) hS ?restx44cx0x15x17x26x28x29x35x37x39x40
            case h1x44cx0x15x17x26x28x29x35x37x39x40 => (simp only [List.getElem?_toArray, List.getElem?_cons_succ, List.getElem?_cons_zero]; rfl)
            case hopx44cx0x15x17x26x28x29x35x37x39x40 => rfl
            case hsx44cx0x15x17x26x28x29x35x37x39x40 => kernel_rfl
            case hfx44cx0x15x17x26x28x29x35x37x39x40 => kernel_rfl
            case hrx44cx0x15x17x26x28x29x35x37x39x40 => kernel_rfl
            case hQx44cx0x15x17x26x28x29x35x37x39x40 => exact fun _ _ _ h => h
            case hwx44cx0x15x17x26x28x29x35x37x39x40 => rfl
            case hix44cx0x15x17x26x28x29x35x37x39x40 => exact ia.out
            simp only [Act.put, List.setIfInBounds_toArray, List.set_cons_succ, List.set_cons_zero]
            refine' wpAnyH_take (i := 46) ?h1x46cx0x15x17x26x28x29x35x37x39x40 ?hsx46cx0x15x17x26x28x29x35x37x39x40 ?hfx46cx0x15x17x26x28x29x35x37x39x40 ?hrx46cx0x15x17x26x28x29x35x37x39x40 ?hQx46cx0x15x17x26x28x29x35x37x39x40 (Or.inl ⟨?hwx46cx0x15x17x26x28x29x35x37x39x40, ?hyx46cx0x15x17x26x28x29x35x37x39x40⟩) hS ?restx46cx0x15x17x26x28x29x35x37x39x40
            case h1x46cx0x15x17x26x28x29x35x37x39x40 => (simp only [List.getElem?_toArray, List.getElem?_cons_succ, List.getElem?_cons_zero]; rfl)
            case hsx46cx0x15x17x26x28x29x35x37x39x40 => kernel_rfl
            case hfx46cx0x15x17x26x28x29x35x37x39x40 => kernel_rfl
            case hrx46cx0x15x17x26x28x29x35x37x39x40 => kernel_rfl
            case hQx46cx0x15x17x26x28x29x35x37x39x40 => exact fun _ _ _ h => h
            case hwx46cx0x15x17x26x28x29x35x37x39x40 => rfl
            case hyx46cx0x15x17x26x28x29x35x37x39x40 =>
              intro W hW
              go_simp
              try with_reducible rfl
            simp only [Act.put, List.setIfInBounds_toArray, List.set_cons_succ, List.set_cons_zero]
            refine wpAnyH_ready (rs := [45]) (by kernel_rfl) (by simp) ?_
            refine' (AllReadyH.cons ?hoc45cx0x15x17x26x28x29x35x37x39x40 (fun K hK => ?stc45cx0x15x17x26x28x29x35x37x39x40) AllReadyH.nil)
            case hoc45cx0x15x17x26x28x29x35x37x39x40 => (simp only [List.getElem?_toArray, List.getElem?_cons_succ, List.getElem?_cons_zero]; rfl)
            go_simp
            refine (BL.out Wcx0x15x17x26x28x29x35x37x39x40 hS.1).mono ?_
            rintro e Wcx0x15x17x26x28x29x35x37x39x40x45 ⟨rfl, hb⟩
            go_wp2_with fail
            refine hK.out _ _ (⟨hS.1.trans (hb.mono hS.1.size), (hb.block _ (blk_lt hS.2.1)).trans hS.2.1, (hb.block _ (blk_lt hS.2.2.1)).trans hS.2.2.1, (hb.block _ (blk_lt hS.2.2.2.1)).trans hS.2.2.2.1, (hb.block _ (blk_lt hS.2.2.2.2)).trans hS.2.2.2.2⟩) (fun hHeld => ?_)
            clear hK K
            try simp only [Act.put, List.setIfInBounds_toArray, List.set_cons_succ, List.set_cons_zero]
            clear hS
            have hS := hHeld
            clear hHeld
            clear hb
            refine' wpAnyH_take (i := 47) ?h1x47cx0x15x17x26x28x29x35x37x39x40x45 ?hsx47cx0x15x17x26x28x29x35x37x39x40x45 ?hfx47cx0x15x17x26x28x29x35x37x39x40x45 ?hrx47cx0x15x17x26x28x29x35x37x39x40x45 ?hQx47cx0x15x17x26x28x29x35x37x39x40x45 (Or.inl ⟨?hwx47cx0x15x17x26x28x29x35x37x39x40x45, ?hyx47cx0x15x17x26x28x29x35x37x39x40x45⟩) hS ?restx47cx0x15x17x26x28x29x35x37x39x40x45
            case h1x47cx0x15x17x26x28x29x35x37x39x40x45 => (simp only [List.getElem?_toArray, List.getElem?_cons_succ, List.getElem?_cons_zero]; rfl)
            case hsx47cx0x15x17x26x28x29x35x37x39x40x45 => kernel_rfl
            case hfx47cx0x15x17x26x28x29x35x37x39x40x45 => kernel_rfl
            case hrx47cx0x15x17x26x28x29x35x37x39x40x45 => kernel_rfl
            case hQx47cx0x15x17x26x28x29x35x37x39x40x45 => exact fun _ _ _ h => h
            case hwx47cx0x15x17x26x28x29x35x37x39x40x45 => rfl
            case hyx47cx0x15x17x26x28x29x35x37x39x40x45 =>
              intro W hW
              go_simp
              try with_reducible rfl
            simp only [Act.put, List.setIfInBounds_toArray, List.set_cons_succ, List.set_cons_zero]
            refine' wpAnyH_take (i := 48) ?h1x48cx0x15x17x26x28x29x35x37x39x40x45 ?hsx48cx0x15x17x26x28x29x35x37x39x40x45 ?hfx48cx0x15x17x26x28x29x35x37x39x40x45 ?hrx48cx0x15x17x26x28x29x35x37x39x40x45 ?hQx48cx0x15x17x26x28x29x35x37x39x40x45 (Or.inl ⟨?hwx48cx0x15x17x26x28x29x35x37x39x40x45, ?hyx48cx0x15x17x26x28x29x35x37x39x40x45⟩) hS ?restx48cx0x15x17x26x28x29x35x37x39x40x45
            case h1x48cx0x15x17x26x28x29x35x37x39x40x45 => (simp only [List.getElem?_toArray, List.getElem?_cons_succ, List.getElem?_cons_zero]; rfl)
            case hsx48cx0x15x17x26x28x29x35x37x39x40x45 => kernel_rfl
            case hfx48cx0x15x17x26x28x29x35x37x39x40x45 => kernel_rfl
            case hrx48cx0x15x17x26x28x29x35x37x39x40x45 => kernel_rfl
            case hQx48cx0x15x17x26x28x29x35x37x39x40x45 => exact fun _ _ _ h => h
            case hwx48cx0x15x17x26x28x29x35x37x39x40x45 => rfl
            case hyx48cx0x15x17x26x28x29x35x37x39x40x45 =>
              intro W hW
              go_simp
              try with_reducible rfl
            simp only [Act.put, List.setIfInBounds_toArray, List.set_cons_succ, List.set_cons_zero]
            refine' wpAnyH_take (i := 49) ?h1x49cx0x15x17x26x28x29x35x37x39x40x45 ?hsx49cx0x15x17x26x28x29x35x37x39x40x45 ?hfx49cx0x15x17x26x28x29x35x37x39x40x45 ?hrx49cx0x15x17x26x28x29x35x37x39x40x45 ?hQx49cx0x15x17x26x28x29x35x37x39x40x45 (Or.inl ⟨?hwx49cx0x15x17x26x28x29x35x37x39x40x45, ?hyx49cx0x15x17x26x28x29x35x37x39x40x45⟩) hS ?restx49cx0x15x17x26x28x29x35x37x39x40x45
            case h1x49cx0x15x17x26x28x29x35x37x39x40x45 => (simp only [List.getElem?_toArray, List.getElem?_cons_succ, List.getElem?_cons_zero]; rfl)
            case hsx49cx0x15x17x26x28x29x35x37x39x40x45 => kernel_rfl
            case hfx49cx0x15x17x26x28x29x35x37x39x40x45 => kernel_rfl
            case hrx49cx0x15x17x26x28x29x35x37x39x40x45 => kernel_rfl
            case hQx49cx0x15x17x26x28x29x35x37x39x40x45 => exact fun _ _ _ h => h
            case hwx49cx0x15x17x26x28x29x35x37x39x40x45 => rfl
            case hyx49cx0x15x17x26x28x29x35x37x39x40x45 =>
              intro W hW
              go_simp
              try with_reducible rfl
            simp only [Act.put, List.setIfInBounds_toArray, List.set_cons_succ, List.set_cons_zero]
            refine wpAnyH_done (by kernel_rfl) ?_ _
            go_wp2_with fail
            go_ret
            exact ⟨rfl, B11.out.trans (hS.1.mono B11.out.size)⟩
          · have e := KC0.out h3 h4 h5
            subst e
            have d3 : (pk == 3) = false := beq_eq_false_iff_ne.2 h3
            have d4 : (pk == 4) = false := beq_eq_false_iff_ne.2 h4
            have d5 : (pk == 5) = false := beq_eq_false_iff_ne.2 h5
            clear KC KC5 KC4 KC0 h3 h4 h5
            go_upto_region 17 with (fail)
            clear CK0 CK5 CK137
            refine wp_region_held_drew (S := fun W => Below wu.heap.size wu W ∧ W.heap[w.heap.size]? = some (.cells A 26 (0, 0)) ∧ W.heap[(w.heap.size + 1)]? = some (.cells B 26 (0, 0)) ∧ W.heap[w7.heap.size]? = some (.cells C 26 (0, 0)) ∧ W.heap[wt.heap.size]? = some (.cells E 35 (0, 0))) (by kernel_rfl) (⟨(Below.refl _ _).drew, A11.out, Q11.out, C11.out, E11.out⟩) (fun hS => ?_)
            have hb0 : Below wu.heap.size wu wu.drew := (Below.refl _ _).drew
            clear hb0 
            generalize wu.drew = Wds at hS  ⊢
            refine wpAnyH_ready (rs := [0]) (by kernel_rfl) (by simp) ?_
            refine' (AllReadyH.cons ?hoc0d (fun K hK => ?stc0d) AllReadyH.nil)
            case hoc0d => (simp only [List.getElem?_toArray, List.getElem?_cons_zero]; rfl)
            go_simp
            refine (AL.out Wds).mono ?_
            rintro e Wdx0 ⟨rfl, hb⟩
            go_wp2_with fail
            refine hK.out _ _ (⟨hS.1.trans (hb.mono hS.1.size), (hb.block _ (blk_lt hS.2.1)).trans hS.2.1, (hb.block _ (blk_lt hS.2.2.1)).trans hS.2.2.1, (hb.block _ (blk_lt hS.2.2.2.1)).trans hS.2.2.2.1, (hb.block _ (blk_lt hS.2.2.2.2)).trans hS.2.2.2.2⟩) (fun hHeld => ?_)
            clear hK K
            try simp only [Act.put, List.setIfInBounds_toArray, List.set_cons_succ, List.set_cons_zero]
            clear hS
            have hS := hHeld
            clear hHeld
            clear hb
            refine' wpAnyH_take (i := 1) ?h1x1dx0 ?hsx1dx0 ?hfx1dx0 ?hrx1dx0 ?hQx1dx0 (Or.inl ⟨?hwx1dx0, ?hyx1dx0⟩) hS ?restx1dx0
            case h1x1dx0 => (simp only [List.getElem?_toArray, List.getElem?_cons_succ, List.getElem?_cons_zero]; rfl)
            case hsx1dx0 => kernel_rfl
            case hfx1dx0 => kernel_rfl
            case hrx1dx0 => kernel_rfl
            case hQx1dx0 => exact fun _ _ _ h => h
            case hwx1dx0 => rfl
            case hyx1dx0 =>
              intro W hW
              go_simp
              try with_reducible rfl
            simp only [Act.put, List.setIfInBounds_toArray, List.set_cons_succ, List.set_cons_zero]
            refine' wpAnyH_take (i := 2) ?h1x2dx0 ?hsx2dx0 ?hfx2dx0 ?hrx2dx0 ?hQx2dx0 (Or.inl ⟨?hwx2dx0, ?hyx2dx0⟩) hS ?restx2dx0
            case h1x2dx0 => (simp only [List.getElem?_toArray, List.getElem?_cons_succ, List.getElem?_cons_zero]; rfl)
            case hsx2dx0 => kernel_rfl
            case hfx2dx0 => kernel_rfl
            case hrx2dx0 => kernel_rfl
            case hQx2dx0 => exact fun _ _ _ h => h
            case hwx2dx0 => rfl
            case hyx2dx0 =>
              intro W hW
              go_simp
              try with_reducible rfl
            simp only [Act.put, List.setIfInBounds_toArray, List.set_cons_succ, List.set_cons_zero]
            refine' wpAnyH_take (i := 3) ?h1x3dx0 ?hsx3dx0 ?hfx3dx0 ?hrx3dx0 ?hQx3dx0 (Or.inl ⟨?hwx3dx0, ?hyx3dx0⟩) hS ?restx3dx0
            case h1x3dx0 => (simp only [List.getElem?_toArray, List.getElem?_cons_succ, List.getElem?_cons_zero]; rfl)
            case hsx3dx0 => kernel_rfl
            case hfx3dx0 => kernel_rfl
            case hrx3dx0 => kernel_rfl
            case hQx3dx0 => exact fun _ _ _ h => h
            case hwx3dx0 => rfl
            case hyx3dx0 =>
              intro W hW
              have dd := CX.out W hW.1
              go_simp
              try with_reducible rfl
            simp only [Act.put, List.setIfInBounds_toArray, List.set_cons_succ, List.set_cons_zero]
            refine' wpAnyH_take (i := 4) ?h1x4dx0 ?hsx4dx0 ?hfx4dx0 ?hrx4dx0 ?hQx4dx0 (Or.inl ⟨?hwx4dx0, ?hyx4dx0⟩) hS ?restx4dx0
            case h1x4dx0 => (simp only [List.getElem?_toArray, List.getElem?_cons_succ, List.getElem?_cons_zero]; rfl)
            case hsx4dx0 => kernel_rfl
            case hfx4dx0 => kernel_rfl
            case hrx4dx0 => kernel_rfl
            case hQx4dx0 => exact fun _ _ _ h => h
            case hwx4dx0 => rfl
            case hyx4dx0 =>
              intro W hW
              go_simp
              try with_reducible rfl
            simp only [Act.put, List.setIfInBounds_toArray, List.set_cons_succ, List.set_cons_zero]
            refine' wpAnyH_take (i := 5) ?h1x5dx0 ?hsx5dx0 ?hfx5dx0 ?hrx5dx0 ?hQx5dx0 (Or.inl ⟨?hwx5dx0, ?hyx5dx0⟩) hS ?restx5dx0
            case h1x5dx0 => (simp only [List.getElem?_toArray, List.getElem?_cons_succ, List.getElem?_cons_zero]; rfl)
            case hsx5dx0 => kernel_rfl
            case hfx5dx0 => kernel_rfl
            case hrx5dx0 => kernel_rfl
            case hQx5dx0 => exact fun _ _ _ h => h
            case hwx5dx0 => rfl
            case hyx5dx0 =>
              intro W hW
              have dd := CY.out W hW.1
              go_simp
              try with_reducible rfl
            simp only [Act.put, List.setIfInBounds_toArray, List.set_cons_succ, List.set_cons_zero]
            refine' wpAnyH_take (i := 6) ?h1x6dx0 ?hsx6dx0 ?hfx6dx0 ?hrx6dx0 ?hQx6dx0 (Or.inl ⟨?hwx6dx0, ?hyx6dx0⟩) hS ?restx6dx0
            case h1x6dx0 => (simp only [List.getElem?_toArray, List.getElem?_cons_succ, List.getElem?_cons_zero]; rfl)
            case hsx6dx0 => kernel_rfl
            case hfx6dx0 => kernel_rfl
            case hrx6dx0 => kernel_rfl
            case hQx6dx0 => exact fun _ _ _ h => h
            case hwx6dx0 => rfl
            case hyx6dx0 =>
              intro W hW
              go_simp
              try with_reducible rfl
            simp only [Act.put, List.setIfInBounds_toArray, List.set_cons_succ, List.set_cons_zero]
            refine' wpAnyH_take (i := 7) ?h1x7dx0 ?hsx7dx0 ?hfx7dx0 ?hrx7dx0 ?hQx7dx0 (Or.inl ⟨?hwx7dx0, ?hyx7dx0⟩) hS ?restx7dx0
            case h1x7dx0 => (simp only [List.getElem?_toArray, List.getElem?_cons_succ, List.getElem?_cons_zero]; rfl)
            case hsx7dx0 => kernel_rfl
            case hfx7dx0 => kernel_rfl
            case hrx7dx0 => kernel_rfl
            case hQx7dx0 => exact fun _ _ _ h => h
            case hwx7dx0 => rfl
            case hyx7dx0 =>
              intro W hW
              go_simp
              try with_reducible rfl
            simp only [Act.put, List.setIfInBounds_toArray, List.set_cons_succ, List.set_cons_zero]
            refine' wpAnyH_take (i := 8) ?h1x8dx0 ?hsx8dx0 ?hfx8dx0 ?hrx8dx0 ?hQx8dx0 (Or.inl ⟨?hwx8dx0, ?hyx8dx0⟩) hS ?restx8dx0
            case h1x8dx0 => (simp only [List.getElem?_toArray, List.getElem?_cons_succ, List.getElem?_cons_zero]; rfl)
            case hsx8dx0 => kernel_rfl
            case hfx8dx0 => kernel_rfl
            case hrx8dx0 => kernel_rfl
            case hQx8dx0 => exact fun _ _ _ h => h
            case hwx8dx0 => rfl
            case hyx8dx0 =>
              intro W hW
              go_simp
              try with_reducible rfl
            simp only [Act.put, List.setIfInBounds_toArray, List.set_cons_succ, List.set_cons_zero]
            refine' wpAnyH_take (i := 9) ?h1x9dx0 ?hsx9dx0 ?hfx9dx0 ?hrx9dx0 ?hQx9dx0 (Or.inl ⟨?hwx9dx0, ?hyx9dx0⟩) hS ?restx9dx0
            case h1x9dx0 => (simp only [List.getElem?_toArray, List.getElem?_cons_succ, List.getElem?_cons_zero]; rfl)
            case hsx9dx0 => kernel_rfl
            case hfx9dx0 => kernel_rfl
            case hrx9dx0 => kernel_rfl
            case hQx9dx0 => exact fun _ _ _ h => h
            case hwx9dx0 => rfl
            case hyx9dx0 =>
              intro W hW
              go_simp
              try with_reducible rfl
            simp only [Act.put, List.setIfInBounds_toArray, List.set_cons_succ, List.set_cons_zero]
            refine' wpAnyH_take (i := 10) ?h1x10dx0 ?hsx10dx0 ?hfx10dx0 ?hrx10dx0 ?hQx10dx0 (Or.inl ⟨?hwx10dx0, ?hyx10dx0⟩) hS ?restx10dx0
            case h1x10dx0 => (simp only [List.getElem?_toArray, List.getElem?_cons_succ, List.getElem?_cons_zero]; rfl)
            case hsx10dx0 => kernel_rfl
            case hfx10dx0 => kernel_rfl
            case hrx10dx0 => kernel_rfl
            case hQx10dx0 => exact fun _ _ _ h => h
            case hwx10dx0 => rfl
            case hyx10dx0 =>
              intro W hW
              go_simp
              try with_reducible rfl
            simp only [Act.put, List.setIfInBounds_toArray, List.set_cons_succ, List.set_cons_zero]
            refine' wpAnyH_take (i := 11) ?h1x11dx0 ?hsx11dx0 ?hfx11dx0 ?hrx11dx0 ?hQx11dx0 (Or.inl ⟨?hwx11dx0, ?hyx11dx0⟩) hS ?restx11dx0
            case h1x11dx0 => (simp only [List.getElem?_toArray, List.getElem?_cons_succ, List.getElem?_cons_zero]; rfl)
            case hsx11dx0 => kernel_rfl
            case hfx11dx0 => kernel_rfl
            case hrx11dx0 => kernel_rfl
            case hQx11dx0 => exact fun _ _ _ h => h
            case hwx11dx0 => rfl
            case hyx11dx0 =>
              intro W hW
              go_simp
              try with_reducible rfl
            simp only [Act.put, List.setIfInBounds_toArray, List.set_cons_succ, List.set_cons_zero]
            refine' wpAnyH_take (i := 12) ?h1x12dx0 ?hsx12dx0 ?hfx12dx0 ?hrx12dx0 ?hQx12dx0 (Or.inl ⟨?hwx12dx0, ?hyx12dx0⟩) hS ?restx12dx0
            case h1x12dx0 => (simp only [List.getElem?_toArray, List.getElem?_cons_succ, List.getElem?_cons_zero]; rfl)
            case hsx12dx0 => kernel_rfl
            case hfx12dx0 => kernel_rfl
            case hrx12dx0 => kernel_rfl
            case hQx12dx0 => exact fun _ _ _ h => h
            case hwx12dx0 => rfl
            case hyx12dx0 =>
              intro W hW
              go_simp
              try with_reducible rfl
            simp only [Act.put, List.setIfInBounds_toArray, List.set_cons_succ, List.set_cons_zero]
            refine' wpAnyH_take (i := 13) ?h1x13dx0 ?hsx13dx0 ?hfx13dx0 ?hrx13dx0 ?hQx13dx0 (Or.inl ⟨?hwx13dx0, ?hyx13dx0⟩) hS ?restx13dx0
            case h1x13dx0 => (simp only [List.getElem?_toArray, List.getElem?_cons_succ, List.getElem?_cons_zero]; rfl)
            case hsx13dx0 => kernel_rfl
            case hfx13dx0 => kernel_rfl
            case hrx13dx0 => kernel_rfl
            case hQx13dx0 => exact fun _ _ _ h => h
            case hwx13dx0 => rfl
            case hyx13dx0 =>
              intro W hW
              go_simp
              try with_reducible rfl
            simp only [Act.put, List.setIfInBounds_toArray, List.set_cons_succ, List.set_cons_zero]
            refine' wpAnyH_take (i := 14) ?h1x14dx0 ?hsx14dx0 ?hfx14dx0 ?hrx14dx0 ?hQx14dx0 (yieldsIf_load_at ?hwx14dx0 26 (.tmp 12) ?hopx14dx0 w7.heap.size 0 rfl C _ (fun W hW => range_row hW.2.2.2.1) Try.underlying26 rfl ?hix14dx0) hS ?restx14dx0
            case h1x14dx0 => (simp only [List.getElem?_toArray, List.getElem?_cons_succ, List.getElem?_cons_zero]; rfl)
            case hopx14dx0 => rfl
            case hsx14dx0 => kernel_rfl
            case hfx14dx0 => kernel_rfl
            case hrx14dx0 => kernel_rfl
            case hQx14dx0 => exact fun _ _ _ h => h
            case hwx14dx0 => rfl
            case hix14dx0 => exact IC.out
            simp only [Act.put, List.setIfInBounds_toArray, List.set_cons_succ, List.set_cons_zero]
            refine' wpAnyH_take (i := 16) ?h1x16dx0 ?hsx16dx0 ?hfx16dx0 ?hrx16dx0 ?hQx16dx0 (yieldsIf_load_at ?hwx16dx0 35 (.tmp 15) ?hopx16dx0 wt.heap.size 0 rfl E _ (fun W hW => range_row hW.2.2.2.2) Try.underlying35 rfl ?hix16dx0) hS ?restx16dx0
            case h1x16dx0 => (simp only [List.getElem?_toArray, List.getElem?_cons_succ, List.getElem?_cons_zero]; rfl)
            case hopx16dx0 => rfl
            case hsx16dx0 => kernel_rfl
            case hfx16dx0 => kernel_rfl
            case hrx16dx0 => kernel_rfl
            case hQx16dx0 => exact fun _ _ _ h => h
            case hwx16dx0 => rfl
            case hix16dx0 => exact IE.out
            simp only [Act.put, List.setIfInBounds_toArray, List.set_cons_succ, List.set_cons_zero]
            refine wpAnyH_ready (rs := [15]) (by kernel_rfl) (by simp) ?_
            refine' (AllReadyH.cons ?hoc15dx0 (fun K hK => ?stc15dx0) AllReadyH.nil)
            case hoc15dx0 => (simp only [List.getElem?_toArray, List.getElem?_cons_succ, List.getElem?_cons_zero]; rfl)
            go_simp
            refine (AC.out Wdx0 hS.1).mono ?_
            rintro e Wdx0x15 ⟨rfl, hb⟩
            go_wp2_with fail
            refine hK.out _ _ (⟨hS.1.trans (hb.mono hS.1.size), (hb.block _ (blk_lt hS.2.1)).trans hS.2.1, (hb.block _ (blk_lt hS.2.2.1)).trans hS.2.2.1, (hb.block _ (blk_lt hS.2.2.2.1)).trans hS.2.2.2.1, (hb.block _ (blk_lt hS.2.2.2.2)).trans hS.2.2.2.2⟩) (fun hHeld => ?_)
            clear hK K
            try simp only [Act.put, List.setIfInBounds_toArray, List.set_cons_succ, List.set_cons_zero]
            clear hS
            have hS := hHeld
            clear hHeld
            clear hb
            refine wpAnyH_ready (rs := [17]) (by kernel_rfl) (by simp) ?_
            refine' (AllReadyH.cons ?hoc17dx0x15 (fun K hK => ?stc17dx0x15) AllReadyH.nil)
            case hoc17dx0x15 => (simp only [List.getElem?_toArray, List.getElem?_cons_succ, List.getElem?_cons_zero]; rfl)
            go_simp
            refine (SD.out Wdx0x15 hS.1).mono ?_
            rintro e Wdx0x15x17 ⟨rfl, hb⟩
            go_wp2_with fail
            refine hK.out _ _ (⟨hS.1.trans (hb.mono hS.1.size), (hb.block _ (blk_lt hS.2.1)).trans hS.2.1, (hb.block _ (blk_lt hS.2.2.1)).trans hS.2.2.1, (hb.block _ (blk_lt hS.2.2.2.1)).trans hS.2.2.2.1, (hb.block _ (blk_lt hS.2.2.2.2)).trans hS.2.2.2.2⟩) (fun hHeld => ?_)
            clear hK K
            try simp only [Act.put, List.setIfInBounds_toArray, List.set_cons_succ, List.set_cons_zero]
            clear hS
            have hS := hHeld
            clear hHeld
            clear hb
            refine' wpAnyH_take (i := 18) ?h1x18dx0x15x17 ?hsx18dx0x15x17 ?hfx18dx0x15x17 ?hrx18dx0x15x17 ?hQx18dx0x15x17 (Or.inl ⟨?hwx18dx0x15x17, ?hyx18dx0x15x17⟩) hS ?restx18dx0x15x17
            case h1x18dx0x15x17 => (simp only [List.getElem?_toArray, List.getElem?_cons_succ, List.getElem?_cons_zero]; rfl)
            case hsx18dx0x15x17 => kernel_rfl
            case hfx18dx0x15x17 => kernel_rfl
            case hrx18dx0x15x17 => kernel_rfl
            case hQx18dx0x15x17 => exact fun _ _ _ h => h
            case hwx18dx0x15x17 => rfl
            case hyx18dx0x15x17 =>
              intro W hW
              go_simp
              try with_reducible rfl
            simp only [Act.put, List.setIfInBounds_toArray, List.set_cons_succ, List.set_cons_zero]
            refine' wpAnyH_take (i := 19) ?h1x19dx0x15x17 ?hsx19dx0x15x17 ?hfx19dx0x15x17 ?hrx19dx0x15x17 ?hQx19dx0x15x17 (Or.inl ⟨?hwx19dx0x15x17, ?hyx19dx0x15x17⟩) hS ?restx19dx0x15x17
            case h1x19dx0x15x17 => (simp only [List.getElem?_toArray, List.getElem?_cons_succ, List.getElem?_cons_zero]; rfl)
            case hsx19dx0x15x17 => kernel_rfl
            case hfx19dx0x15x17 => kernel_rfl
            case hrx19dx0x15x17 => kernel_rfl
            case hQx19dx0x15x17 => exact fun _ _ _ h => h
            case hwx19dx0x15x17 => rfl
            case hyx19dx0x15x17 =>
              intro W hW
              go_simp
              try with_reducible rfl
            simp only [Act.put, List.setIfInBounds_toArray, List.set_cons_succ, List.set_cons_zero]
            refine' wpAnyH_take (i := 20) ?h1x20dx0x15x17 ?hsx20dx0x15x17 ?hfx20dx0x15x17 ?hrx20dx0x15x17 ?hQx20dx0x15x17 (Or.inl ⟨?hwx20dx0x15x17, ?hyx20dx0x15x17⟩) hS ?restx20dx0x15x17
            case h1x20dx0x15x17 => (simp only [List.getElem?_toArray, List.getElem?_cons_succ, List.getElem?_cons_zero]; rfl)
            case hsx20dx0x15x17 => kernel_rfl
            case hfx20dx0x15x17 => kernel_rfl
            case hrx20dx0x15x17 => kernel_rfl
            case hQx20dx0x15x17 => exact fun _ _ _ h => h
            case hwx20dx0x15x17 => rfl
            case hyx20dx0x15x17 =>
              intro W hW
              go_simp
              try with_reducible rfl
            simp only [Act.put, List.setIfInBounds_toArray, List.set_cons_succ, List.set_cons_zero]
            refine' wpAnyH_take (i := 21) ?h1x21dx0x15x17 ?hsx21dx0x15x17 ?hfx21dx0x15x17 ?hrx21dx0x15x17 ?hQx21dx0x15x17 (Or.inl ⟨?hwx21dx0x15x17, ?hyx21dx0x15x17⟩) hS ?restx21dx0x15x17
            case h1x21dx0x15x17 => (simp only [List.getElem?_toArray, List.getElem?_cons_succ, List.getElem?_cons_zero]; rfl)
            case hsx21dx0x15x17 => kernel_rfl
            case hfx21dx0x15x17 => kernel_rfl
            case hrx21dx0x15x17 => kernel_rfl
            case hQx21dx0x15x17 => exact fun _ _ _ h => h
            case hwx21dx0x15x17 => rfl
            case hyx21dx0x15x17 =>
              intro W hW
              go_simp
              try with_reducible rfl
            simp only [Act.put, List.setIfInBounds_toArray, List.set_cons_succ, List.set_cons_zero]
            refine' wpAnyH_take (i := 22) ?h1x22dx0x15x17 ?hsx22dx0x15x17 ?hfx22dx0x15x17 ?hrx22dx0x15x17 ?hQx22dx0x15x17 (Or.inl ⟨?hwx22dx0x15x17, ?hyx22dx0x15x17⟩) hS ?restx22dx0x15x17
            case h1x22dx0x15x17 => (simp only [List.getElem?_toArray, List.getElem?_cons_succ, List.getElem?_cons_zero]; rfl)
            case hsx22dx0x15x17 => kernel_rfl
            case hfx22dx0x15x17 => kernel_rfl
            case hrx22dx0x15x17 => kernel_rfl
            case hQx22dx0x15x17 => exact fun _ _ _ h => h
            case hwx22dx0x15x17 => rfl
            case hyx22dx0x15x17 =>
              intro W hW
              go_simp
              try with_reducible rfl
            simp only [Act.put, List.setIfInBounds_toArray, List.set_cons_succ, List.set_cons_zero]
            refine' wpAnyH_take (i := 23) ?h1x23dx0x15x17 ?hsx23dx0x15x17 ?hfx23dx0x15x17 ?hrx23dx0x15x17 ?hQx23dx0x15x17 (Or.inl ⟨?hwx23dx0x15x17, ?hyx23dx0x15x17⟩) hS ?restx23dx0x15x17
            case h1x23dx0x15x17 => (simp only [List.getElem?_toArray, List.getElem?_cons_succ, List.getElem?_cons_zero]; rfl)
            case hsx23dx0x15x17 => kernel_rfl
            case hfx23dx0x15x17 => kernel_rfl
            case hrx23dx0x15x17 => kernel_rfl
            case hQx23dx0x15x17 => exact fun _ _ _ h => h
            case hwx23dx0x15x17 => rfl
            case hyx23dx0x15x17 =>
              intro W hW
              go_simp
              try with_reducible rfl
            simp only [Act.put, List.setIfInBounds_toArray, List.set_cons_succ, List.set_cons_zero]
            refine' wpAnyH_take (i := 24) ?h1x24dx0x15x17 ?hsx24dx0x15x17 ?hfx24dx0x15x17 ?hrx24dx0x15x17 ?hQx24dx0x15x17 (Or.inl ⟨?hwx24dx0x15x17, ?hyx24dx0x15x17⟩) hS ?restx24dx0x15x17
            case h1x24dx0x15x17 => (simp only [List.getElem?_toArray, List.getElem?_cons_succ, List.getElem?_cons_zero]; rfl)
            case hsx24dx0x15x17 => kernel_rfl
            case hfx24dx0x15x17 => kernel_rfl
            case hrx24dx0x15x17 => kernel_rfl
            case hQx24dx0x15x17 => exact fun _ _ _ h => h
            case hwx24dx0x15x17 => rfl
            case hyx24dx0x15x17 =>
              intro W hW
              go_simp
              try with_reducible rfl
            simp only [Act.put, List.setIfInBounds_toArray, List.set_cons_succ, List.set_cons_zero]
            refine' wpAnyH_take (i := 25) ?h1x25dx0x15x17 ?hsx25dx0x15x17 ?hfx25dx0x15x17 ?hrx25dx0x15x17 ?hQx25dx0x15x17 (yieldsIf_load_at ?hwx25dx0x15x17 26 (.tmp 3) ?hopx25dx0x15x17 w.heap.size 0 rfl A _ (fun W hW => range_row hW.2.1) Try.underlying26 rfl ?hix25dx0x15x17) hS ?restx25dx0x15x17
            case h1x25dx0x15x17 => (simp only [List.getElem?_toArray, List.getElem?_cons_succ, List.getElem?_cons_zero]; rfl)
            case hopx25dx0x15x17 => rfl
            case hsx25dx0x15x17 => kernel_rfl
            case hfx25dx0x15x17 => kernel_rfl
            case hrx25dx0x15x17 => kernel_rfl
            case hQx25dx0x15x17 => exact fun _ _ _ h => h
            case hwx25dx0x15x17 => rfl
            case hix25dx0x15x17 => exact ia.out
            simp only [Act.put, List.setIfInBounds_toArray, List.set_cons_succ, List.set_cons_zero]
            refine' wpAnyH_take (i := 27) ?h1x27dx0x15x17 ?hsx27dx0x15x17 ?hfx27dx0x15x17 ?hrx27dx0x15x17 ?hQx27dx0x15x17 (yieldsIf_load_at ?hwx27dx0x15x17 26 (.tmp 3) ?hopx27dx0x15x17 w.heap.size 0 rfl A _ (fun W hW => range_row hW.2.1) Try.underlying26 rfl ?hix27dx0x15x17) hS ?restx27dx0x15x17
            case h1x27dx0x15x17 => (simp only [List.getElem?_toArray, List.getElem?_cons_succ, List.getElem?_cons_zero]; rfl)
            case hopx27dx0x15x17 => rfl
            case hsx27dx0x15x17 => kernel_rfl
            case hfx27dx0x15x17 => kernel_rfl
            case hrx27dx0x15x17 => kernel_rfl
            case hQx27dx0x15x17 => exact fun _ _ _ h => h
            case hwx27dx0x15x17 => rfl
            case hix27dx0x15x17 => exact ia.out
            simp only [Act.put, List.setIfInBounds_toArray, List.set_cons_succ, List.set_cons_zero]
            refine wpAnyH_ready (rs := [26]) (by kernel_rfl) (by simp) ?_
            refine' (AllReadyH.cons ?hoc26dx0x15x17 (fun K hK => ?stc26dx0x15x17) AllReadyH.nil)
            case hoc26dx0x15x17 => (simp only [List.getElem?_toArray, List.getElem?_cons_succ, List.getElem?_cons_zero]; rfl)
            go_simp
            refine (R1.out Wdx0x15x17 hS.1).mono ?_
            rintro e Wdx0x15x17x26 ⟨rfl, hb⟩
            go_wp2_with fail
            refine hK.out _ _ (⟨hS.1.trans (hb.mono hS.1.size), (hb.block _ (blk_lt hS.2.1)).trans hS.2.1, (hb.block _ (blk_lt hS.2.2.1)).trans hS.2.2.1, (hb.block _ (blk_lt hS.2.2.2.1)).trans hS.2.2.2.1, (hb.block _ (blk_lt hS.2.2.2.2)).trans hS.2.2.2.2⟩) (fun hHeld => ?_)
            clear hK K
            try simp only [Act.put, List.setIfInBounds_toArray, List.set_cons_succ, List.set_cons_zero]
            clear hS
            have hS := hHeld
            clear hHeld
            clear hb
            refine wpAnyH_ready (rs := [28]) (by kernel_rfl) (by simp) ?_
            refine' (AllReadyH.cons ?hoc28dx0x15x17x26 (fun K hK => ?stc28dx0x15x17x26) AllReadyH.nil)
            case hoc28dx0x15x17x26 => (simp only [List.getElem?_toArray, List.getElem?_cons_succ, List.getElem?_cons_zero]; rfl)
            go_simp
            refine (AP.out Wdx0x15x17x26 hS.1).mono ?_
            rintro e Wdx0x15x17x26x28 ⟨rfl, hb⟩
            go_wp2_with fail
            refine hK.out _ _ (⟨hS.1.trans (hb.mono hS.1.size), (hb.block _ (blk_lt hS.2.1)).trans hS.2.1, (hb.block _ (blk_lt hS.2.2.1)).trans hS.2.2.1, (hb.block _ (blk_lt hS.2.2.2.1)).trans hS.2.2.2.1, (hb.block _ (blk_lt hS.2.2.2.2)).trans hS.2.2.2.2⟩) (fun hHeld => ?_)
            clear hK K
            try simp only [Act.put, List.setIfInBounds_toArray, List.set_cons_succ, List.set_cons_zero]
            clear hS
            have hS := hHeld
            clear hHeld
            clear hb
            refine wpAnyH_ready (rs := [29]) (by kernel_rfl) (by simp) ?_
            refine' (AllReadyH.cons ?hoc29dx0x15x17x26x28 (fun K hK => ?stc29dx0x15x17x26x28) AllReadyH.nil)
            case hoc29dx0x15x17x26x28 => (simp only [List.getElem?_toArray, List.getElem?_cons_succ, List.getElem?_cons_zero]; rfl)
            go_simp
            refine (R2.out Wdx0x15x17x26x28 hS.1).mono ?_
            rintro e Wdx0x15x17x26x28x29 ⟨rfl, hb⟩
            go_wp2_with fail
            refine hK.out _ _ (⟨hS.1.trans (hb.mono hS.1.size), (hb.block _ (blk_lt hS.2.1)).trans hS.2.1, (hb.block _ (blk_lt hS.2.2.1)).trans hS.2.2.1, (hb.block _ (blk_lt hS.2.2.2.1)).trans hS.2.2.2.1, (hb.block _ (blk_lt hS.2.2.2.2)).trans hS.2.2.2.2⟩) (fun hHeld => ?_)
            clear hK K
            try simp only [Act.put, List.setIfInBounds_toArray, List.set_cons_succ, List.set_cons_zero]
            clear hS
            have hS := hHeld
            clear hHeld
            clear hb
            refine' wpAnyH_take (i := 30) ?h1x30dx0x15x17x26x28x29 ?hsx30dx0x15x17x26x28x29 ?hfx30dx0x15x17x26x28x29 ?hrx30dx0x15x17x26x28x29 ?hQx30dx0x15x17x26x28x29 (Or.inl ⟨?hwx30dx0x15x17x26x28x29, ?hyx30dx0x15x17x26x28x29⟩) hS ?restx30dx0x15x17x26x28x29
            case h1x30dx0x15x17x26x28x29 => (simp only [List.getElem?_toArray, List.getElem?_cons_succ, List.getElem?_cons_zero]; rfl)
            case hsx30dx0x15x17x26x28x29 => kernel_rfl
            case hfx30dx0x15x17x26x28x29 => kernel_rfl
            case hrx30dx0x15x17x26x28x29 => kernel_rfl
            case hQx30dx0x15x17x26x28x29 => exact fun _ _ _ h => h
            case hwx30dx0x15x17x26x28x29 => rfl
            case hyx30dx0x15x17x26x28x29 =>
              intro W hW
              go_simp
              try with_reducible rfl
            simp only [Act.put, List.setIfInBounds_toArray, List.set_cons_succ, List.set_cons_zero]
            refine' wpAnyH_take (i := 31) ?h1x31dx0x15x17x26x28x29 ?hsx31dx0x15x17x26x28x29 ?hfx31dx0x15x17x26x28x29 ?hrx31dx0x15x17x26x28x29 ?hQx31dx0x15x17x26x28x29 (Or.inl ⟨?hwx31dx0x15x17x26x28x29, ?hyx31dx0x15x17x26x28x29⟩) hS ?restx31dx0x15x17x26x28x29
            case h1x31dx0x15x17x26x28x29 => (simp only [List.getElem?_toArray, List.getElem?_cons_succ, List.getElem?_cons_zero]; rfl)
            case hsx31dx0x15x17x26x28x29 => kernel_rfl
            case hfx31dx0x15x17x26x28x29 => kernel_rfl
            case hrx31dx0x15x17x26x28x29 => kernel_rfl
            case hQx31dx0x15x17x26x28x29 => exact fun _ _ _ h => h
            case hwx31dx0x15x17x26x28x29 => rfl
            case hyx31dx0x15x17x26x28x29 =>
              intro W hW
              go_simp
              try with_reducible rfl
            simp only [Act.put, List.setIfInBounds_toArray, List.set_cons_succ, List.set_cons_zero]
            refine' wpAnyH_take (i := 32) ?h1x32dx0x15x17x26x28x29 ?hsx32dx0x15x17x26x28x29 ?hfx32dx0x15x17x26x28x29 ?hrx32dx0x15x17x26x28x29 ?hQx32dx0x15x17x26x28x29 (Or.inl ⟨?hwx32dx0x15x17x26x28x29, ?hyx32dx0x15x17x26x28x29⟩) hS ?restx32dx0x15x17x26x28x29
            case h1x32dx0x15x17x26x28x29 => (simp only [List.getElem?_toArray, List.getElem?_cons_succ, List.getElem?_cons_zero]; rfl)
            case hsx32dx0x15x17x26x28x29 => kernel_rfl
            case hfx32dx0x15x17x26x28x29 => kernel_rfl
            case hrx32dx0x15x17x26x28x29 => kernel_rfl
            case hQx32dx0x15x17x26x28x29 => exact fun _ _ _ h => h
            case hwx32dx0x15x17x26x28x29 => rfl
            case hyx32dx0x15x17x26x28x29 =>
              intro W hW
              go_simp
              try with_reducible rfl
            simp only [Act.put, List.setIfInBounds_toArray, List.set_cons_succ, List.set_cons_zero]
            refine' wpAnyH_take (i := 33) ?h1x33dx0x15x17x26x28x29 ?hsx33dx0x15x17x26x28x29 ?hfx33dx0x15x17x26x28x29 ?hrx33dx0x15x17x26x28x29 ?hQx33dx0x15x17x26x28x29 (yieldsIf_load_at ?hwx33dx0x15x17x26x28x29 26 (.tmp 3) ?hopx33dx0x15x17x26x28x29 w.heap.size 0 rfl A _ (fun W hW => range_row hW.2.1) Try.underlying26 rfl ?hix33dx0x15x17x26x28x29) hS ?restx33dx0x15x17x26x28x29
            case h1x33dx0x15x17x26x28x29 => (simp only [List.getElem?_toArray, List.getElem?_cons_succ, List.getElem?_cons_zero]; rfl)
            case hopx33dx0x15x17x26x28x29 => rfl
            case hsx33dx0x15x17x26x28x29 => kernel_rfl
            case hfx33dx0x15x17x26x28x29 => kernel_rfl
            case hrx33dx0x15x17x26x28x29 => kernel_rfl
            case hQx33dx0x15x17x26x28x29 => exact fun _ _ _ h => h
            case hwx33dx0x15x17x26x28x29 => rfl
            case hix33dx0x15x17x26x28x29 => exact ia.out
            simp only [Act.put, List.setIfInBounds_toArray, List.set_cons_succ, List.set_cons_zero]
            refine' wpAnyH_take (i := 34) ?h1x34dx0x15x17x26x28x29 ?hsx34dx0x15x17x26x28x29 ?hfx34dx0x15x17x26x28x29 ?hrx34dx0x15x17x26x28x29 ?hQx34dx0x15x17x26x28x29 (yieldsIf_load_at ?hwx34dx0x15x17x26x28x29 26 (.tmp 4) ?hopx34dx0x15x17x26x28x29 (w.heap.size + 1) 0 rfl B _ (fun W hW => range_row hW.2.2.1) Try.underlying26 rfl ?hix34dx0x15x17x26x28x29) hS ?restx34dx0x15x17x26x28x29
            case h1x34dx0x15x17x26x28x29 => (simp only [List.getElem?_toArray, List.getElem?_cons_succ, List.getElem?_cons_zero]; rfl)
            case hopx34dx0x15x17x26x28x29 => rfl
            case hsx34dx0x15x17x26x28x29 => kernel_rfl
            case hfx34dx0x15x17x26x28x29 => kernel_rfl
            case hrx34dx0x15x17x26x28x29 => kernel_rfl
            case hQx34dx0x15x17x26x28x29 => exact fun _ _ _ h => h
            case hwx34dx0x15x17x26x28x29 => rfl
            case hix34dx0x15x17x26x28x29 => exact ib.out
            simp only [Act.put, List.setIfInBounds_toArray, List.set_cons_succ, List.set_cons_zero]
            refine' wpAnyH_take (i := 36) ?h1x36dx0x15x17x26x28x29 ?hsx36dx0x15x17x26x28x29 ?hfx36dx0x15x17x26x28x29 ?hrx36dx0x15x17x26x28x29 ?hQx36dx0x15x17x26x28x29 (yieldsIf_load_at ?hwx36dx0x15x17x26x28x29 26 (.tmp 3) ?hopx36dx0x15x17x26x28x29 w.heap.size 0 rfl A _ (fun W hW => range_row hW.2.1) Try.underlying26 rfl ?hix36dx0x15x17x26x28x29) hS ?restx36dx0x15x17x26x28x29
            case h1x36dx0x15x17x26x28x29 => (simp only [List.getElem?_toArray, List.getElem?_cons_succ, List.getElem?_cons_zero]; rfl)
            case hopx36dx0x15x17x26x28x29 => rfl
            case hsx36dx0x15x17x26x28x29 => kernel_rfl
            case hfx36dx0x15x17x26x28x29 => kernel_rfl
            case hrx36dx0x15x17x26x28x29 => kernel_rfl
            case hQx36dx0x15x17x26x28x29 => exact fun _ _ _ h => h
            case hwx36dx0x15x17x26x28x29 => rfl
            case hix36dx0x15x17x26x28x29 => exact ia.out
            simp only [Act.put, List.setIfInBounds_toArray, List.set_cons_succ, List.set_cons_zero]
            refine' wpAnyH_take (i := 38) ?h1x38dx0x15x17x26x28x29 ?hsx38dx0x15x17x26x28x29 ?hfx38dx0x15x17x26x28x29 ?hrx38dx0x15x17x26x28x29 ?hQx38dx0x15x17x26x28x29 (yieldsIf_load_at ?hwx38dx0x15x17x26x28x29 26 (.tmp 4) ?hopx38dx0x15x17x26x28x29 (w.heap.size + 1) 0 rfl B _ (fun W hW => range_row hW.2.2.1) Try.underlying26 rfl ?hix38dx0x15x17x26x28x29) hS ?restx38dx0x15x17x26x28x29
            case h1x38dx0x15x17x26x28x29 => (simp only [List.getElem?_toArray, List.getElem?_cons_succ, List.getElem?_cons_zero]; rfl)
            case hopx38dx0x15x17x26x28x29 => rfl
            case hsx38dx0x15x17x26x28x29 => kernel_rfl
            case hfx38dx0x15x17x26x28x29 => kernel_rfl
            case hrx38dx0x15x17x26x28x29 => kernel_rfl
            case hQx38dx0x15x17x26x28x29 => exact fun _ _ _ h => h
            case hwx38dx0x15x17x26x28x29 => rfl
            case hix38dx0x15x17x26x28x29 => exact ib.out
            simp only [Act.put, List.setIfInBounds_toArray, List.set_cons_succ, List.set_cons_zero]
            refine wpAnyH_ready (rs := [35]) (by kernel_rfl) (by simp) ?_
            refine' (AllReadyH.cons ?hoc35dx0x15x17x26x28x29 (fun K hK => ?stc35dx0x15x17x26x28x29) AllReadyH.nil)
            case hoc35dx0x15x17x26x28x29 => (simp only [List.getElem?_toArray, List.getElem?_cons_succ, List.getElem?_cons_zero]; rfl)
            go_simp
            refine (S1.out Wdx0x15x17x26x28x29 hS.1).mono ?_
            rintro e Wdx0x15x17x26x28x29x35 ⟨rfl, hb⟩
            go_wp2_with fail
            refine hK.out _ _ (⟨hS.1.trans (hb.mono hS.1.size), (hb.block _ (blk_lt hS.2.1)).trans hS.2.1, (hb.block _ (blk_lt hS.2.2.1)).trans hS.2.2.1, (hb.block _ (blk_lt hS.2.2.2.1)).trans hS.2.2.2.1, (hb.block _ (blk_lt hS.2.2.2.2)).trans hS.2.2.2.2⟩) (fun hHeld => ?_)
            clear hK K
            try simp only [Act.put, List.setIfInBounds_toArray, List.set_cons_succ, List.set_cons_zero]
            clear hS
            have hS := hHeld
            clear hHeld
            clear hb
            refine wpAnyH_ready (rs := [37]) (by kernel_rfl) (by simp) ?_
            refine' (AllReadyH.cons ?hoc37dx0x15x17x26x28x29x35 (fun K hK => ?stc37dx0x15x17x26x28x29x35) AllReadyH.nil)
            case hoc37dx0x15x17x26x28x29x35 => (simp only [List.getElem?_toArray, List.getElem?_cons_succ, List.getElem?_cons_zero]; rfl)
            go_simp
            refine (AP.out Wdx0x15x17x26x28x29x35 hS.1).mono ?_
            rintro e Wdx0x15x17x26x28x29x35x37 ⟨rfl, hb⟩
            go_wp2_with fail
            refine hK.out _ _ (⟨hS.1.trans (hb.mono hS.1.size), (hb.block _ (blk_lt hS.2.1)).trans hS.2.1, (hb.block _ (blk_lt hS.2.2.1)).trans hS.2.2.1, (hb.block _ (blk_lt hS.2.2.2.1)).trans hS.2.2.2.1, (hb.block _ (blk_lt hS.2.2.2.2)).trans hS.2.2.2.2⟩) (fun hHeld => ?_)
            clear hK K
            try simp only [Act.put, List.setIfInBounds_toArray, List.set_cons_succ, List.set_cons_zero]
            clear hS
            have hS := hHeld
            clear hHeld
            clear hb
            refine wpAnyH_ready (rs := [39]) (by kernel_rfl) (by simp) ?_
            refine' (AllReadyH.cons ?hoc39dx0x15x17x26x28x29x35x37 (fun K hK => ?stc39dx0x15x17x26x28x29x35x37) AllReadyH.nil)
            case hoc39dx0x15x17x26x28x29x35x37 => (simp only [List.getElem?_toArray, List.getElem?_cons_succ, List.getElem?_cons_zero]; rfl)
            go_simp
            refine (AQ.out Wdx0x15x17x26x28x29x35x37 hS.1).mono ?_
            rintro e Wdx0x15x17x26x28x29x35x37x39 ⟨rfl, hb⟩
            go_wp2_with fail
            refine hK.out _ _ (⟨hS.1.trans (hb.mono hS.1.size), (hb.block _ (blk_lt hS.2.1)).trans hS.2.1, (hb.block _ (blk_lt hS.2.2.1)).trans hS.2.2.1, (hb.block _ (blk_lt hS.2.2.2.1)).trans hS.2.2.2.1, (hb.block _ (blk_lt hS.2.2.2.2)).trans hS.2.2.2.2⟩) (fun hHeld => ?_)
            clear hK K
            try simp only [Act.put, List.setIfInBounds_toArray, List.set_cons_succ, List.set_cons_zero]
            clear hS
            have hS := hHeld
            clear hHeld
            clear hb
            refine wpAnyH_ready (rs := [40]) (by kernel_rfl) (by simp) ?_
            refine' (AllReadyH.cons ?hoc40dx0x15x17x26x28x29x35x37x39 (fun K hK => ?stc40dx0x15x17x26x28x29x35x37x39) AllReadyH.nil)
            case hoc40dx0x15x17x26x28x29x35x37x39 => (simp only [List.getElem?_toArray, List.getElem?_cons_succ, List.getElem?_cons_zero]; rfl)
            go_simp
            refine (S2.out Wdx0x15x17x26x28x29x35x37x39 hS.1).mono ?_
            rintro e Wdx0x15x17x26x28x29x35x37x39x40 ⟨rfl, hb⟩
            go_wp2_with fail
            refine hK.out _ _ (⟨hS.1.trans (hb.mono hS.1.size), (hb.block _ (blk_lt hS.2.1)).trans hS.2.1, (hb.block _ (blk_lt hS.2.2.1)).trans hS.2.2.1, (hb.block _ (blk_lt hS.2.2.2.1)).trans hS.2.2.2.1, (hb.block _ (blk_lt hS.2.2.2.2)).trans hS.2.2.2.2⟩) (fun hHeld => ?_)
            clear hK K
            try simp only [Act.put, List.setIfInBounds_toArray, List.set_cons_succ, List.set_cons_zero]
            clear hS
            have hS := hHeld
            clear hHeld
            clear hb
            refine' wpAnyH_take (i := 41) ?h1x41dx0x15x17x26x28x29x35x37x39x40 ?hsx41dx0x15x17x26x28x29x35x37x39x40 ?hfx41dx0x15x17x26x28x29x35x37x39x40 ?hrx41dx0x15x17x26x28x29x35x37x39x40 ?hQx41dx0x15x17x26x28x29x35x37x39x40 (Or.inl ⟨?hwx41dx0x15x17x26x28x29x35x37x39x40, ?hyx41dx0x15x17x26x28x29x35x37x39x40⟩) hS ?restx41dx0x15x17x26x28x29x35x37x39x40
            case h1x41dx0x15x17x26x28x29x35x37x39x40 => (simp only [List.getElem?_toArray, List.getElem?_cons_succ, List.getElem?_cons_zero]; rfl)
            case hsx41dx0x15x17x26x28x29x35x37x39x40 => kernel_rfl
            case hfx41dx0x15x17x26x28x29x35x37x39x40 => kernel_rfl
            case hrx41dx0x15x17x26x28x29x35x37x39x40 => kernel_rfl
            case hQx41dx0x15x17x26x28x29x35x37x39x40 => exact fun _ _ _ h => h
            case hwx41dx0x15x17x26x28x29x35x37x39x40 => rfl
            case hyx41dx0x15x17x26x28x29x35x37x39x40 =>
              intro W hW
              go_simp
              try with_reducible rfl
            simp only [Act.put, List.setIfInBounds_toArray, List.set_cons_succ, List.set_cons_zero]
            refine' wpAnyH_take (i := 42) ?h1x42dx0x15x17x26x28x29x35x37x39x40 ?hsx42dx0x15x17x26x28x29x35x37x39x40 ?hfx42dx0x15x17x26x28x29x35x37x39x40 ?hrx42dx0x15x17x26x28x29x35x37x39x40 ?hQx42dx0x15x17x26x28x29x35x37x39x40 (Or.inl ⟨?hwx42dx0x15x17x26x28x29x35x37x39x40, ?hyx42dx0x15x17x26x28x29x35x37x39x40⟩) hS ?restx42dx0x15x17x26x28x29x35x37x39x40
            case h1x42dx0x15x17x26x28x29x35x37x39x40 => (simp only [List.getElem?_toArray, List.getElem?_cons_succ, List.getElem?_cons_zero]; rfl)
            case hsx42dx0x15x17x26x28x29x35x37x39x40 => kernel_rfl
            case hfx42dx0x15x17x26x28x29x35x37x39x40 => kernel_rfl
            case hrx42dx0x15x17x26x28x29x35x37x39x40 => kernel_rfl
            case hQx42dx0x15x17x26x28x29x35x37x39x40 => exact fun _ _ _ h => h
            case hwx42dx0x15x17x26x28x29x35x37x39x40 => rfl
            case hyx42dx0x15x17x26x28x29x35x37x39x40 =>
              intro W hW
              go_simp
              try with_reducible rfl
            simp only [Act.put, List.setIfInBounds_toArray, List.set_cons_succ, List.set_cons_zero]
            refine' wpAnyH_take (i := 43) ?h1x43dx0x15x17x26x28x29x35x37x39x40 ?hsx43dx0x15x17x26x28x29x35x37x39x40 ?hfx43dx0x15x17x26x28x29x35x37x39x40 ?hrx43dx0x15x17x26x28x29x35x37x39x40 ?hQx43dx0x15x17x26x28x29x35x37x39x40 (Or.inl ⟨?hwx43dx0x15x17x26x28x29x35x37x39x40, ?hyx43dx0x15x17x26x28x29x35x37x39x40⟩) hS ?restx43dx0x15x17x26x28x29x35x37x39x40
            case h1x43dx0x15x17x26x28x29x35x37x39x40 => (simp only [List.getElem?_toArray, List.getElem?_cons_succ, List.getElem?_cons_zero]; rfl)
            case hsx43dx0x15x17x26x28x29x35x37x39x40 => kernel_rfl
            case hfx43dx0x15x17x26x28x29x35x37x39x40 => kernel_rfl
            case hrx43dx0x15x17x26x28x29x35x37x39x40 => kernel_rfl
            case hQx43dx0x15x17x26x28x29x35x37x39x40 => exact fun _ _ _ h => h
            case hwx43dx0x15x17x26x28x29x35x37x39x40 => rfl
            case hyx43dx0x15x17x26x28x29x35x37x39x40 =>
              intro W hW
              go_simp
              try with_reducible rfl
            simp only [Act.put, List.setIfInBounds_toArray, List.set_cons_succ, List.set_cons_zero]
            refine' wpAnyH_take (i := 44) ?h1x44dx0x15x17x26x28x29x35x37x39x40 ?hsx44dx0x15x17x26x28x29x35x37x39x40 ?hfx44dx0x15x17x26x28x29x35x37x39x40 ?hrx44dx0x15x17x26x28x29x35x37x39x40 ?hQx44dx0x15x17x26x28x29x35x37x39x40 (yieldsIf_load_at ?hwx44dx0x15x17x26x28x29x35x37x39x40 26 (.tmp 3) ?hopx44dx0x15x17x26x28x29x35x37x39x40 w.heap.size 0 rfl A _ (fun W hW => range_row hW.2.1) Try.underlying26 rfl ?hix44dx0x15x17x26x28x29x35x37x39x40) hS ?restx44dx0x15x17x26x28x29x35x37x39x40
            case h1x44dx0x15x17x26x28x29x35x37x39x40 => (simp only [List.getElem?_toArray, List.getElem?_cons_succ, List.getElem?_cons_zero]; rfl)
            case hopx44dx0x15x17x26x28x29x35x37x39x40 => rfl
            case hsx44dx0x15x17x26x28x29x35x37x39x40 => kernel_rfl
            case hfx44dx0x15x17x26x28x29x35x37x39x40 => kernel_rfl
            case hrx44dx0x15x17x26x28x29x35x37x39x40 => kernel_rfl
            case hQx44dx0x15x17x26x28x29x35x37x39x40 => exact fun _ _ _ h => h
            case hwx44dx0x15x17x26x28x29x35x37x39x40 => rfl
            case hix44dx0x15x17x26x28x29x35x37x39x40 => exact ia.out
            simp only [Act.put, List.setIfInBounds_toArray, List.set_cons_succ, List.set_cons_zero]
            refine' wpAnyH_take (i := 46) ?h1x46dx0x15x17x26x28x29x35x37x39x40 ?hsx46dx0x15x17x26x28x29x35x37x39x40 ?hfx46dx0x15x17x26x28x29x35x37x39x40 ?hrx46dx0x15x17x26x28x29x35x37x39x40 ?hQx46dx0x15x17x26x28x29x35x37x39x40 (Or.inl ⟨?hwx46dx0x15x17x26x28x29x35x37x39x40, ?hyx46dx0x15x17x26x28x29x35x37x39x40⟩) hS ?restx46dx0x15x17x26x28x29x35x37x39x40
            case h1x46dx0x15x17x26x28x29x35x37x39x40 => (simp only [List.getElem?_toArray, List.getElem?_cons_succ, List.getElem?_cons_zero]; rfl)
            case hsx46dx0x15x17x26x28x29x35x37x39x40 => kernel_rfl
            case hfx46dx0x15x17x26x28x29x35x37x39x40 => kernel_rfl
            case hrx46dx0x15x17x26x28x29x35x37x39x40 => kernel_rfl
            case hQx46dx0x15x17x26x28x29x35x37x39x40 => exact fun _ _ _ h => h
            case hwx46dx0x15x17x26x28x29x35x37x39x40 => rfl
            case hyx46dx0x15x17x26x28x29x35x37x39x40 =>
              intro W hW
              go_simp
              try with_reducible rfl
            simp only [Act.put, List.setIfInBounds_toArray, List.set_cons_succ, List.set_cons_zero]
            refine wpAnyH_ready (rs := [45]) (by kernel_rfl) (by simp) ?_
            refine' (AllReadyH.cons ?hoc45dx0x15x17x26x28x29x35x37x39x40 (fun K hK => ?stc45dx0x15x17x26x28x29x35x37x39x40) AllReadyH.nil)
            case hoc45dx0x15x17x26x28x29x35x37x39x40 => (simp only [List.getElem?_toArray, List.getElem?_cons_succ, List.getElem?_cons_zero]; rfl)
            go_simp
            refine (BL.out Wdx0x15x17x26x28x29x35x37x39x40 hS.1).mono ?_
            rintro e Wdx0x15x17x26x28x29x35x37x39x40x45 ⟨rfl, hb⟩
            go_wp2_with fail
            refine hK.out _ _ (⟨hS.1.trans (hb.mono hS.1.size), (hb.block _ (blk_lt hS.2.1)).trans hS.2.1, (hb.block _ (blk_lt hS.2.2.1)).trans hS.2.2.1, (hb.block _ (blk_lt hS.2.2.2.1)).trans hS.2.2.2.1, (hb.block _ (blk_lt hS.2.2.2.2)).trans hS.2.2.2.2⟩) (fun hHeld => ?_)
            clear hK K
            try simp only [Act.put, List.setIfInBounds_toArray, List.set_cons_succ, List.set_cons_zero]
            clear hS
            have hS := hHeld
            clear hHeld
            clear hb
            refine' wpAnyH_take (i := 47) ?h1x47dx0x15x17x26x28x29x35x37x39x40x45 ?hsx47dx0x15x17x26x28x29x35x37x39x40x45 ?hfx47dx0x15x17x26x28x29x35x37x39x40x45 ?hrx47dx0x15x17x26x28x29x35x37x39x40x45 ?hQx47dx0x15x17x26x28x29x35x37x39x40x45 (Or.inl ⟨?hwx47dx0x15x17x26x28x29x35x37x39x40x45, ?hyx47dx0x15x17x26x28x29x35x37x39x40x45⟩) hS ?restx47dx0x15x17x26x28x29x35x37x39x40x45
            case h1x47dx0x15x17x26x28x29x35x37x39x40x45 => (simp only [List.getElem?_toArray, List.getElem?_cons_succ, List.getElem?_cons_zero]; rfl)
            case hsx47dx0x15x17x26x28x29x35x37x39x40x45 => kernel_rfl
            case hfx47dx0x15x17x26x28x29x35x37x39x40x45 => kernel_rfl
            case hrx47dx0x15x17x26x28x29x35x37x39x40x45 => kernel_rfl
            case hQx47dx0x15x17x26x28x29x35x37x39x40x45 => exact fun _ _ _ h => h
            case hwx47dx0x15x17x26x28x29x35x37x39x40x45 => rfl
            case hyx47dx0x15x17x26x28x29x35x37x39x40x45 =>
              intro W hW
              go_simp
              try with_reducible rfl
            simp only [Act.put, List.setIfInBounds_toArray, List.set_cons_succ, List.set_cons_zero]
            refine' wpAnyH_take (i := 48) ?h1x48dx0x15x17x26x28x29x35x37x39x40x45 ?hsx48dx0x15x17x26x28x29x35x37x39x40x45 ?hfx48dx0x15x17x26x28x29x35x37x39x40x45 ?hrx48dx0x15x17x26x28x29x35x37x39x40x45 ?hQx48dx0x15x17x26x28x29x35x37x39x40x45 (Or.inl ⟨?hwx48dx0x15x17x26x28x29x35x37x39x40x45, ?hyx48dx0x15x17x26x28x29x35x37x39x40x45⟩) hS ?restx48dx0x15x17x26x28x29x35x37x39x40x45
            case h1x48dx0x15x17x26x28x29x35x37x39x40x45 => (simp only [List.getElem?_toArray, List.getElem?_cons_succ, List.getElem?_cons_zero]; rfl)
            case hsx48dx0x15x17x26x28x29x35x37x39x40x45 => kernel_rfl
            case hfx48dx0x15x17x26x28x29x35x37x39x40x45 => kernel_rfl
            case hrx48dx0x15x17x26x28x29x35x37x39x40x45 => kernel_rfl
            case hQx48dx0x15x17x26x28x29x35x37x39x40x45 => exact fun _ _ _ h => h
            case hwx48dx0x15x17x26x28x29x35x37x39x40x45 => rfl
            case hyx48dx0x15x17x26x28x29x35x37x39x40x45 =>
              intro W hW
              go_simp
              try with_reducible rfl
            simp only [Act.put, List.setIfInBounds_toArray, List.set_cons_succ, List.set_cons_zero]
            refine' wpAnyH_take (i := 49) ?h1x49dx0x15x17x26x28x29x35x37x39x40x45 ?hsx49dx0x15x17x26x28x29x35x37x39x40x45 ?hfx49dx0x15x17x26x28x29x35x37x39x40x45 ?hrx49dx0x15x17x26x28x29x35x37x39x40x45 ?hQx49dx0x15x17x26x28x29x35x37x39x40x45 (Or.inl ⟨?hwx49dx0x15x17x26x28x29x35x37x39x40x45, ?hyx49dx0x15x17x26x28x29x35x37x39x40x45⟩) hS ?restx49dx0x15x17x26x28x29x35x37x39x40x45
            case h1x49dx0x15x17x26x28x29x35x37x39x40x45 => (simp only [List.getElem?_toArray, List.getElem?_cons_succ, List.getElem?_cons_zero]; rfl)
            case hsx49dx0x15x17x26x28x29x35x37x39x40x45 => kernel_rfl
            case hfx49dx0x15x17x26x28x29x35x37x39x40x45 => kernel_rfl
            case hrx49dx0x15x17x26x28x29x35x37x39x40x45 => kernel_rfl
            case hQx49dx0x15x17x26x28x29x35x37x39x40x45 => exact fun _ _ _ h => h
            case hwx49dx0x15x17x26x28x29x35x37x39x40x45 => rfl
            case hyx49dx0x15x17x26x28x29x35x37x39x40x45 =>
              intro W hW
              go_simp
              try with_reducible rfl
            simp only [Act.put, List.setIfInBounds_toArray, List.set_cons_succ, List.set_cons_zero]
            refine wpAnyH_done (by kernel_rfl) ?_ _
            go_wp2_with fail
            go_ret
            exact ⟨rfl, B11.out.trans (hS.1.mono B11.out.size)⟩
end Go.Proofs.Ytdohggpajhkkhaa
