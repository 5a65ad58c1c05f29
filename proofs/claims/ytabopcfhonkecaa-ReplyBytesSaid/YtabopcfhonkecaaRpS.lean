/-
  The walk of ReplyBytes. Condition: the arguments read as replies and as bytes.
-/
import Derived.Test.YtabopcfhonkecaaRpM
namespace Go.Proofs.Ytabopcfhonkecaa
open Go.RowKit
theorem own_set {w : World} {base : Nat} {x : Option Addr} {n c : Nat} {zs : List Int} {i : Nat} (h : Own w base (.slice x n c) zs) (hi : i < zs.length) : ∃ g, x = some ⟨g, 0, none⟩ ∧ base ≤ g ∧ w.cell? ⟨g, i, none⟩ = some (.int .u8 (nth zs i)) ∧ w.frozen? ⟨g, i, none⟩ = false ∧
    ∀ z : Int, 0 ≤ z ∧ z ≤ 255 → Own (w.setCell ⟨g, i, none⟩ (.int .u8 z)) base (.slice x n c) (zs.set i z) ∧ w.grownBy (w.setCell ⟨g, i, none⟩ (.int .u8 z)) (some g) := by
  obtain ⟨hb, hl, ⟨e, h0⟩ | ⟨g, cap, cur, e, hbg, hg, hn, hm, hs, ht⟩⟩ := h
  · omega
  · injection e with e1 e2 e3
    subst e1 e2 e3
    have hit : (zs.map (Value.int .u8))[i]? = some (.int .u8 (nth zs i)) := by simp [nth, List.getD, hi]
    rw [Nat.mul_one] at ht
    have hci : cur[i]? = some (.int .u8 (nth zs i)) := by
      rw [← ht, List.getElem?_take_of_lt hi] at hit
      simpa using hit
    refine ⟨g, rfl, hbg, by rw [cell_of_row w _ _ _ _ _ hg]; exact hci, frozen_block hg i, fun z hz => ?_⟩
    refine ⟨⟨fun y hy => ?_, by simp, .inr ⟨g, c, cur.setIfInBounds i (.int .u8 z), by simp, hbg, heap_setCell_same _ _ _ _ _ _ hg, by simpa using hn, hm, by simpa using hs, ?_⟩⟩, by rw [setCell_eq_setRow _ _ _ _ _ _ _ hg]; exact grownBy_setRow _ _ _⟩
    · rcases List.mem_or_eq_of_mem_set hy with hy | hy
      · exact hb y hy
      · rw [hy]; exact hz
    · rw [Array.toList_setIfInBounds, List.length_set, Nat.mul_one, List.take_set, ht, List.map_set]
set_option maxRecDepth 100000 in
set_option maxHeartbeats 1000000 in
theorem bytes_great {p q : Ry} (dv du v : Value) (xs : List Int) (w : World) (hd : Sees w dv p.d) (he : Sees w du q.d) (hs : Sees w v xs) (hg : 5000 < p.d.length ∨ 5000 < q.d.length ∨ 5000 < xs.length) :
    Calls Try.prog 3 #[.agg (rc p dv).toArray, .agg (rc q du).toArray, v] w (AliveP w) := by
  obtain ⟨xa, ca, ea, _⟩ := hd.form
  obtain ⟨xb, cb, eb, _⟩ := he.form
  obtain ⟨xv, cv, rfl, kv⟩ := hs.form
  obtain ⟨A, hA⟩ : ∃ A, A = (rc p dv).toArray := ⟨_, rfl⟩
  obtain ⟨B, hB⟩ : ∃ B, B = (rc q du).toArray := ⟨_, rfl⟩
  rw [← hA, ← hB]
  obtain ⟨w1, hw1⟩ : ∃ w1, w1 = w.alloc (.cells A 25) := ⟨_, rfl⟩
  obtain ⟨w2, hw2⟩ : ∃ w2, w2 = w1.alloc (.cells B 25) := ⟨_, rfl⟩
  have z1 : w1.heap.size = w.heap.size + 1 := by rw [hw1]; simp
  have b1 : Below w.heap.size w w1 := by rw [hw1]; exact (Below.refl _ _).alloc (Nat.le_refl _) _
  have b2 : Below w1.heap.size w1 w2 := by rw [hw2]; exact (Below.refl _ _).alloc (Nat.le_refl _) _
  have g1 : w2.heap[w.heap.size]? = some (.cells A 25 (0, 0)) := by rw [b2.block _ (by omega), hw1]; exact heap_alloc_new w _
  have g2 : w2.heap[w.heap.size + 1]? = some (.cells B 25 (0, 0)) := by rw [hw2, ← z1]; exact heap_alloc_new w1 _
  have BE : Hid (Below w.heap.size w w2) := b1.trans (b2.mono (by omega))
  have ca0 : w2.cell? ⟨w.heap.size, 2, none⟩ = some (.slice xa p.d.length ca) := by rw [← ea]; rw [hA] at g1; exact (row_rc g1).2.2
  have cb0 : w2.cell? ⟨w.heap.size + 1, 2, none⟩ = some (.slice xb q.d.length cb) := by rw [← eb]; rw [hB] at g2; exact (row_rc g2).2.2
  have HW1 := Lib.hid hw1
  have HW2 := Lib.hid hw2
  clear hw1 hw2 z1 b1 b2 g1 g2 hd he ea eb hA hB hs
  generalize p.d.length = np at *
  generalize q.d.length = nq at *
  generalize xs.length = nx at *
  by_cases hp5 : 5000 < np
  · have n5 : decide (5000 < np) = true := decide_eq_true hp5
    have k5 : (5000 : Int) < (np : Int) := by omega
    clear hg
    go_enter Try.func3, Try.ntmps3
    go_wp2_with (first | rw [← HW1.out, ← HW2.out])
    refine (alive _).mono ?_
    rintro e w3 ⟨rfl, hb⟩
    have B3 := Lib.hid (BE.out.trans (hb.mono BE.out.size))
    clear hb
    go_wp2_with fail
    go_ret
    exact ⟨rfl, B3.out⟩
  · have n5 : decide (5000 < np) = false := decide_eq_false hp5
    have k5 : ((np : Nat) : Int) ≤ 5000 := by omega
    by_cases hq5 : 5000 < nq
    · have n6 : decide (5000 < nq) = true := decide_eq_true hq5
      have k6 : (5000 : Int) < (nq : Int) := by omega
      clear hg
      go_enter Try.func3, Try.ntmps3
      go_wp2_with (first | rw [← HW1.out, ← HW2.out])
      refine (alive _).mono ?_
      rintro e w3 ⟨rfl, hb⟩
      have B3 := Lib.hid (BE.out.trans (hb.mono BE.out.size))
      clear hb
      go_wp2_with fail
      go_ret
      exact ⟨rfl, B3.out⟩
    · have n6 : decide (5000 < nq) = false := decide_eq_false hq5
      have k6 : ((nq : Nat) : Int) ≤ 5000 := by omega
      have hx5 : 5000 < nx := by omega
      have n7 : decide (5000 < nx) = true := decide_eq_true hx5
      have k7 : (5000 : Int) < (nx : Int) := by omega
      clear hg
      go_enter Try.func3, Try.ntmps3
      go_wp2_with (first | rw [← HW1.out, ← HW2.out])
      refine (alive _).mono ?_
      rintro e w3 ⟨rfl, hb⟩
      have B3 := Lib.hid (BE.out.trans (hb.mono BE.out.size))
      clear hb
      go_wp2_with fail
      go_ret
      exact ⟨rfl, B3.out⟩
set_option maxRecDepth 100000 in
set_option maxHeartbeats 40000000 in
theorem bytes_ok {p q : Ry} (h5 : p.d.length ≤ 5000) (h6 : q.d.length ≤ 5000) (dv du v : Value) (xs : List Int) (hx5 : xs.length ≤ 5000) (w : World) (hd : Sees w dv p.d) (he : Sees w du q.d) (hs : Sees w v xs) :
    Calls Try.prog 3 #[.agg (rc p dv).toArray, .agg (rc q du).toArray, v] w (AliveP w) := by
  have ia := Lib.hid (i25 p dv)
  have ib := Lib.hid (i25 q du)
  obtain ⟨xa, ca, ea, xa63⟩ := hd.form
  obtain ⟨xb, cb, eb, xb63⟩ := he.form
  obtain ⟨xv, cv, rfl, xv63⟩ := hs.form
  obtain ⟨A, hA⟩ : ∃ A, A = (rc p dv).toArray := ⟨_, rfl⟩
  obtain ⟨B, hB⟩ : ∃ B, B = (rc q du).toArray := ⟨_, rfl⟩
  rw [← hA] at ia ⊢
  rw [← hB] at ib ⊢
  obtain ⟨w1, hw1⟩ : ∃ w1, w1 = w.alloc (.cells A 25) := ⟨_, rfl⟩
  obtain ⟨w2, hw2⟩ : ∃ w2, w2 = w1.alloc (.cells B 25) := ⟨_, rfl⟩
  have z1 : w1.heap.size = w.heap.size + 1 := by rw [hw1]; simp
  have b1 : Below w.heap.size w w1 := by rw [hw1]; exact (Below.refl _ _).alloc (Nat.le_refl _) _
  have b2 : Below w1.heap.size w1 w2 := by rw [hw2]; exact (Below.refl _ _).alloc (Nat.le_refl _) _
  have g1 : w2.heap[w.heap.size]? = some (.cells A 25 (0, 0)) := by rw [b2.block _ (by omega), hw1]; exact heap_alloc_new w _
  have g2 : w2.heap[w.heap.size + 1]? = some (.cells B 25 (0, 0)) := by rw [hw2, ← z1]; exact heap_alloc_new w1 _
  have BE : Hid (Below w.heap.size w w2) := b1.trans (b2.mono (by omega))
  have CD : Hid (∀ W : World, W.heap[w.heap.size]? = some (.cells A 25 (0, 0)) → W.cell? ⟨w.heap.size, 0, none⟩ = some (.int .i64 p.e) ∧ W.cell? ⟨w.heap.size, 1, none⟩ = some (.int .i64 p.n) ∧ W.cell? ⟨w.heap.size, 2, none⟩ = some (.slice xa p.d.length ca)) := fun W h => by
    rw [← ea]
    exact row_rc (by rw [hA] at h; exact h)
  have CB : Hid (∀ W : World, W.heap[w.heap.size + 1]? = some (.cells B 25 (0, 0)) → W.cell? ⟨w.heap.size + 1, 0, none⟩ = some (.int .i64 q.e) ∧ W.cell? ⟨w.heap.size + 1, 1, none⟩ = some (.int .i64 q.n) ∧ W.cell? ⟨w.heap.size + 1, 2, none⟩ = some (.slice xb q.d.length cb)) := fun W h => by
    rw [← eb]
    exact row_rc (by rw [hB] at h; exact h)
  have ca0 := (CD.out w2 g1).2.2
  have cb0 := (CB.out w2 g2).2.2
  have EA : Hid (∀ W, Below w.heap.size w W → Calls Try.prog 8 #[.agg A] W (EncP W p)) := fun W h => by rw [hA]; exact encodeC h5 dv W (hd.below h)
  have EB : Hid (∀ W, Below w.heap.size w W → Calls Try.prog 9 #[.agg #[.int .i64 p.e, .int .i64 p.n, .slice xa p.d.length ca]] W (EncP W p)) := fun W h => by
    have hh := encodeD h5 dv W (hd.below h)
    rw [ea] at hh
    exact hh
  have CP : Hid (∀ W, Below w.heap.size w W → Calls Try.prog 10 #[.slice xv xs.length cv] W (OwnP W xs)) := fun W h => copyC _ xs W (hs.below h) (by omega)
  have DC : Hid (∀ v' W, Sees W v' xs → Calls Try.prog 11 #[v'] W (DecP W xs)) := fun v' W h => decodeC v' xs (by omega) W h
  have DD : Hid (∀ W, Below w.heap.size w W → Calls Try.prog 12 #[.slice xv xs.length cv] W (DecS W xs)) := fun W h => decodeD _ xs (by omega) W (hs.below h)
  have n5 : decide (5000 < p.d.length) = false := decide_eq_false (by omega)
  have k5 : ((p.d.length : Nat) : Int) ≤ 5000 := by omega
  have n6 : decide (5000 < q.d.length) = false := decide_eq_false (by omega)
  have k6 : ((q.d.length : Nat) : Int) ≤ 5000 := by omega
  have n7 : decide (5000 < xs.length) = false := decide_eq_false (by omega)
  have k7 : ((xs.length : Nat) : Int) ≤ 5000 := by omega
  have G1 := Lib.hid g1
  have G2 := Lib.hid g2
  have HW1 := Lib.hid hw1
  have HW2 := Lib.hid hw2
  have HA := Lib.hid hA
  have HB := Lib.hid hB
  have HEA := Lib.hid ea
  have HEB := Lib.hid eb
  have HD := Lib.hid hd
  have HE := Lib.hid he
  have HS := Lib.hid hs
  have H5 := Lib.hid h5
  have H6 := Lib.hid h6
  have HX5 := Lib.hid hx5
  clear hw1 hw2 z1 b1 b2 g1 g2 hA hB hd he hs h5 h6 hx5 ea eb
  go_enter Try.func3, Try.ntmps3
  go_upto_region 1 with (fail)
  rw [← HW1.out, ← HW2.out]
  go_upto_region 3 with (fail)
  clear ca0 cb0
  go_wp2_with (refine wpList_load_row rfl 25 (.tmp 3) rfl w.heap.size rfl 25 A (0, 0) _ G1.out Try.underlying25 rfl ia.out ?_)
  refine (EA.out w2 BE.out).mono ?_
  rintro e w3 ⟨x3, c3, rfl, hs3, hb⟩
  have B3 := Lib.hid (BE.out.trans (hb.mono BE.out.size))
  have A3 := Lib.hid ((hb.block _ (blk_lt G1.out)).trans G1.out)
  have Q3 := Lib.hid ((hb.block _ (blk_lt G2.out)).trans G2.out)
  have S3 := Lib.hid hs3
  clear hb hs3 G1 G2 BE
  obtain ⟨cx0, cx1, cx2⟩ := CD.out w3 A3.out
  go_wp2_with fail
  clear cx0 cx1 cx2
  refine (EB.out w3 B3.out).mono ?_
  rintro e w5 ⟨x5, c5, rfl, hs5, hb⟩
  have B5 := Lib.hid (B3.out.trans (hb.mono B3.out.size))
  have A5 := Lib.hid ((hb.block _ (blk_lt A3.out)).trans A3.out)
  have Q5 := Lib.hid ((hb.block _ (blk_lt Q3.out)).trans Q3.out)
  have S5 := Lib.hid (S3.out.below hb)
  have T5 := Lib.hid hs5
  clear hb hs5 A3 Q3 S3 B3
  go_wp2_with fail
  refine (CP.out w5 B5.out).mono ?_
  rintro e w6 ⟨x6, c6, rfl, ho6, hb⟩
  have B6 := Lib.hid (B5.out.trans (hb.mono B5.out.size))
  have A6 := Lib.hid ((hb.block _ (blk_lt A5.out)).trans A5.out)
  have Q6 := Lib.hid ((hb.block _ (blk_lt Q5.out)).trans Q5.out)
  have S6 := Lib.hid (S5.out.below hb)
  have T6 := Lib.hid (T5.out.below hb)
  have O6 := Lib.hid ho6
  have BO6 := Lib.hid hb
  have OLT : Hid (∀ k, (Value.slice x6 xs.length c6).ownBlock = some k → k < w6.heap.size) := by
    obtain ⟨_, _, ⟨e, _⟩ | ⟨g, cap, cur, e, _, hg, _⟩⟩ := ho6
    · intro k hk; rw [e] at hk; simp [Value.ownBlock] at hk
    · intro k hk; rw [e] at hk; simp [Value.ownBlock] at hk; subst hk; exact blk_lt hg
  clear hb ho6
  go_wp2_with fail
  refine (DC.out _ w6 O6.out.sees).mono ?_
  rintro e w7 ⟨dq, rfl, hs7, hf7, hb⟩
  have B7 := Lib.hid (B6.out.trans (hb.mono B6.out.size))
  have A7 := Lib.hid ((hb.block _ (blk_lt A6.out)).trans A6.out)
  have Q7 := Lib.hid ((hb.block _ (blk_lt Q6.out)).trans Q6.out)
  have S7 := Lib.hid (S6.out.below hb)
  have T7 := Lib.hid (T6.out.below hb)
  have O7 := Lib.hid (O6.out.below hb)
  have Z67 : Hid (w6.heap.size ≤ w7.heap.size) := hb.size
  have BO7 := Lib.hid (BO6.out.trans (hb.mono BO6.out.size))
  have ic := i25 (decP xs) dq
  have oc := rc_one (p := decP xs) hs7.one
  obtain ⟨C, hC⟩ : ∃ C, C = (rc (decP xs) dq).toArray := ⟨_, rfl⟩
  obtain ⟨Z, hZ⟩ : ∃ Z, Z = (rc ⟨0, 0, []⟩ (.slice none 0 0)).toArray := ⟨_, rfl⟩
  have z := z25
  rw [← hZ] at z
  have iz : (Try.prog.info? 25).map (·.size) = some Z.size := by rw [hZ]; exact i25 _ _
  rw [← hC] at ic oc ⊢
  have IC := Lib.hid ic
  have OC := Lib.hid oc
  have HZ := Lib.hid z
  have IZC : Hid (Z.size = C.size) := Option.some.inj (iz.symm.trans ic)
  obtain ⟨w8, hw8⟩ : ∃ w8, w8 = w7.alloc (.cells C 25) := ⟨_, rfl⟩
  have RN : Hid ((w7.alloc (.cells Z 25)).setRow w7.heap.size C = w8) := by show _ = _; rw [hw8]; exact alloc_setRowT w7 Z C 25 _ rfl
  have GZ : Hid ((w7.alloc (.cells Z 25)).heap[w7.heap.size]? = some (.cells Z 25 (0, 0))) := heap_alloc_new w7 _
  have hb8 : Below w7.heap.size w7 w8 := by rw [hw8]; exact (Below.refl _ _).alloc (Nat.le_refl _) _
  have C8 : Hid (w8.heap[w7.heap.size]? = some (.cells C 25 (0, 0))) := by show _ = _; rw [hw8]; exact heap_alloc_new w7 _
  have B8 := Lib.hid (B7.out.trans (hb8.mono B7.out.size))
  have A8 := Lib.hid ((hb8.block _ (blk_lt A7.out)).trans A7.out)
  have Q8 := Lib.hid ((hb8.block _ (blk_lt Q7.out)).trans Q7.out)
  have S8 := Lib.hid (S7.out.below hb8)
  have T8 := Lib.hid (T7.out.below hb8)
  have O8 := Lib.hid (O7.out.below hb8)
  have D8 := Lib.hid (hs7.below hb8)
  have F7 := Lib.hid hf7
  have HC := Lib.hid hC
  have BO : Hid (Below w5.heap.size w5 w8) := BO7.out.trans (hb8.mono BO7.out.size)
  clear hb hb8 hw8 hC hZ z iz ic oc hs7 hf7 A6 Q6 S6 T6 O6 B6 A7 Q7 S7 T7 O7 B7 BO6 BO7
  go_upto_region 7 with (first | (refine wpList_alloc_z rfl 25 rfl (HZ.out w7) ?_; refine wpList_store_row rfl 25 (.tmp 12) (.tmp 55) rfl w7.heap.size C rfl rfl 25 Z GZ.out IC.out IZC.out OC.out ?_; rw [RN.out]))
  go_upto_region 8 with (fail)
  go_loopw [14] (fun i wr => ∃ (j : Nat) (zs : List Int), j ≤ xs.length ∧ i = .int .i64 (j : Int) ∧ zs.length = xs.length ∧ Own wr w5.heap.size (.slice x6 xs.length c6) zs ∧ w8.grownBy wr (Value.slice x6 xs.length c6).ownBlock ∧ Below w5.heap.size w5 wr) (fun i _ => xs.length - (intOf i).toNat)
  case atStart => exact ⟨0, xs, by omega, rfl, rfl, O8.out, grownBy_refl _ _, BO.out⟩
  case round =>
    obtain ⟨j, zs, hj, rfl, hzl, hown, hgr, hbc⟩ := hrel
    by_cases hlt : j < xs.length
    · have hii : (j : Int) < (xs.length : Int) := by omega
      obtain ⟨g, rfl, hag, hcell, hfz, hset⟩ := own_set hown (show j < zs.length by omega)
      have hby := hown.1.nth j
      have hx8 := xor8_zero (nth zs j) 255 hby (by decide)
      have hset := hset _ hx8.2
      have HSET := Lib.hid hset
      have HGR := Lib.hid (rx.grownBy_trans hgr hset.2)
      have HBC2 := Lib.hid (hbc.setCell (p := ⟨g, j, none⟩) hag (.int .u8 (bits .xor .u8 (nth zs j) 255)))
      have k0 := hby.1
      have k1 := hby.2
      have HZL := Lib.hid hzl
      clear hown hgr hbc hset hx8 hby hzl
      go_wp2_with fail
      go_roundw
      case rel => exact ⟨j + 1, zs.set j (bits .xor .u8 (nth zs j) 255), by omega, by go_num, by rw [List.length_set]; exact HZL.out, HSET.out.1, HGR.out, HBC2.out⟩
      case measure => simp [intOf]; omega
    · have hge : ¬ (j : Int) < (xs.length : Int) := by omega
      have A9 := Lib.hid ((hbc.block _ (blk_lt A5.out)).trans A5.out)
      have Q9 := Lib.hid ((hbc.block _ (blk_lt Q5.out)).trans Q5.out)
      have S9 := Lib.hid (S5.out.below hbc)
      have T9 := Lib.hid (T5.out.below hbc)
      have B9 := Lib.hid (B5.out.trans (hbc.mono B5.out.size))
      have C9 := Lib.hid ((hgr.block _ (blk_lt C8.out) (fun e => by have := OLT.out _ e.symm; have := Z67.out; omega)).trans C8.out)
      have D9 := Lib.hid (D8.out.grown hgr (fun k e e2 => by have := OLT.out _ e; have := F7.out _ e2; omega))
      clear hown hgr hbc hzl A5 Q5 S5 T5 B5 A8 Q8 S8 T8 O8 C8 D8
      go_upto_region 11 with (fail)
      go_wp2_with fail
      refine (DD.out wr B9.out).mono ?_
      rintro e wt ⟨dr, rfl, hs9, hb⟩
      have B10 := Lib.hid (B9.out.trans (hb.mono B9.out.size))
      have A10 := Lib.hid ((hb.block _ (blk_lt A9.out)).trans A9.out)
      have Q10 := Lib.hid ((hb.block _ (blk_lt Q9.out)).trans Q9.out)
      have C10 := Lib.hid ((hb.block _ (blk_lt C9.out)).trans C9.out)
      have S10 := Lib.hid (S9.out.below hb)
      have T10 := Lib.hid (T9.out.below hb)
      have D10 := Lib.hid (D9.out.below hb)
      have ie := i30 (decP xs) dr
      have oe := rc_one (p := decP xs) hs9.one
      obtain ⟨E, hE⟩ : ∃ E, E = (rc (decP xs) dr).toArray := ⟨_, rfl⟩
      obtain ⟨Y, hY⟩ : ∃ Y, Y = (rc ⟨0, 0, []⟩ (.slice none 0 0)).toArray := ⟨_, rfl⟩
      have zy := z30
      rw [← hY] at zy
      have iy : (Try.prog.info? 30).map (·.size) = some Y.size := by rw [hY]; exact i30 _ _
      rw [← hE] at ie oe ⊢
      have IE := Lib.hid ie
      have OE := Lib.hid oe
      have HY := Lib.hid zy
      have IYE : Hid (Y.size = E.size) := Option.some.inj (iy.symm.trans ie)
      obtain ⟨wu, hwu⟩ : ∃ wu, wu = wt.alloc (.cells E 30) := ⟨_, rfl⟩
      have RE : Hid ((wt.alloc (.cells Y 30)).setRow wt.heap.size E = wu) := by show _ = _; rw [hwu]; exact alloc_setRowT wt Y E 30 _ rfl
      have GY : Hid ((wt.alloc (.cells Y 30)).heap[wt.heap.size]? = some (.cells Y 30 (0, 0))) := heap_alloc_new wt _
      have hbu : Below wt.heap.size wt wu := by rw [hwu]; exact (Below.refl _ _).alloc (Nat.le_refl _) _
      have E11 : Hid (wu.heap[wt.heap.size]? = some (.cells E 30 (0, 0))) := by show _ = _; rw [hwu]; exact heap_alloc_new wt _
      have B11 := Lib.hid (B10.out.trans (hbu.mono B10.out.size))
      have A11 := Lib.hid ((hbu.block _ (blk_lt A10.out)).trans A10.out)
      have Q11 := Lib.hid ((hbu.block _ (blk_lt Q10.out)).trans Q10.out)
      have C11 := Lib.hid ((hbu.block _ (blk_lt C10.out)).trans C10.out)
      have S11 := Lib.hid (S10.out.below hbu)
      have T11 := Lib.hid (T10.out.below hbu)
      have D11 := Lib.hid (D10.out.below hbu)
      have U11 := Lib.hid (hs9.below hbu)
      have HE2 := Lib.hid hE
      clear hb hbu hwu hE hY zy iy ie oe hs9 A9 Q9 S9 T9 C9 D9 B9 A10 Q10 S10 T10 C10 D10 B10
      have CX : Hid (∀ W, Below wu.heap.size wu W → (convert 23 9 (.slice x3 (encV p).length c3)).run Try.prog W = .ok (.string (strOfNums (encV p))) W) := fun W h => (S11.out.below h).str
      have CY : Hid (∀ W, Below wu.heap.size wu W → (convert 23 9 (.slice x5 (encV p).length c5)).run Try.prog W = .ok (.string (strOfNums (encV p))) W) := fun W h => (T11.out.below h).str
      have CU : Hid (∀ W, Below wu.heap.size wu W → (convert 23 9 dq).run Try.prog W = .ok (.string (strOfNums (decP xs).d)) W) := fun W h => (D11.out.below h).str
      have CV : Hid (∀ W, Below wu.heap.size wu W → (convert 23 9 dr).run Try.prog W = .ok (.string (strOfNums (decP xs).d)) W) := fun W h => (U11.out.below h).str
      have BB : Hid (∀ W, Below wu.heap.size wu W → Below w.heap.size w W) := fun W h => B11.out.trans (h.mono B11.out.size)
      have AL : Hid (∀ W, Calls Try.prog 7 #[] W (AliveP W)) := fun W => alive W
      have SM : Hid (∀ W, Below wu.heap.size wu W → Calls Try.prog 13 #[.agg A, .agg B] W fun e w' => e = .returned (.bool (sameB p q)) ∧ Below W.heap.size W w') := fun W h => by rw [HA.out, HB.out]; exact sameC dv du W (HD.out.below (BB.out W h)) (HE.out.below (BB.out W h))
      have FA : Hid (∀ W, Calls Try.prog 14 #[.int .i64 p.e] W fun e w' => e = .returned (.agg #[.int .i64 p.e, .int .i64 0, .slice none 0 0]) ∧ Below W.heap.size W w') := fun W => failC p.e W
      have SF : Hid (∀ W, Calls Try.prog 13 #[.agg #[.int .i64 p.e, .int .i64 0, .slice none 0 0], .agg #[.int .i64 p.e, .int .i64 0, .slice none 0 0]] W fun e w' => e = .returned (.bool true) ∧ Below W.heap.size W w') := fun W => by
        have hh := sameC (p := ⟨p.e, 0, []⟩) (q := ⟨p.e, 0, []⟩) _ _ W (sees_nil W) (sees_nil W)
        rw [show sameB ⟨p.e, 0, []⟩ ⟨p.e, 0, []⟩ = true by simp [sameB]] at hh
        exact hh
      have CC : Hid (∀ W : World, W.heap[w7.heap.size]? = some (.cells C 25 (0, 0)) → W.cell? ⟨w7.heap.size, 0, none⟩ = some (.int .i64 (decP xs).e) ∧ W.cell? ⟨w7.heap.size, 1, none⟩ = some (.int .i64 (decP xs).n) ∧ W.cell? ⟨w7.heap.size, 2, none⟩ = some dq) := fun W h => row_rc (by rw [HC.out] at h; exact h)
      have CE : Hid (∀ W : World, W.heap[wt.heap.size]? = some (.cells E 30 (0, 0)) → W.cell? ⟨wt.heap.size, 0, none⟩ = some (.int .i64 (decP xs).e) ∧ W.cell? ⟨wt.heap.size, 1, none⟩ = some (.int .i64 (decP xs).n) ∧ W.cell? ⟨wt.heap.size, 2, none⟩ = some dr) := fun W h => row_rc (by rw [HE2.out] at h; exact h)
      obtain ⟨ca1, ca2, ca3⟩ := CD.out wu A11.out
      obtain ⟨cb1, cb2, cb3⟩ := CB.out wu Q11.out
      have cvp := (HD.out.below B11.out).str
      have cvq := (HE.out.below B11.out).str
      rw [HEA.out] at cvp
      rw [HEB.out] at cvq
      have SE := Lib.hid (str_eq p.d q.d HD.out.1 HE.out.1)
      have CA0 : Hid (∀ W : World, W.heap[w.heap.size]? = some (.cells A 25 (0, 0)) → W.cell? ⟨w.heap.size, 0, none⟩ = some (.int .i64 p.e)) := fun W h => (CD.out W h).1
      clear S11 T11 D11 U11 EB CP DC DD HA HB HC HE2 HD HE H5 H6 HX5 CD CB HEA HEB HS
      generalize strOfNums (encV p) = SX at CX CY
      generalize strOfNums (decP xs).d = SD at CU CV
      generalize strOfNums p.d = SP at cvp SE
      generalize strOfNums q.d = SQ at cvq SE
      have SB : Hid (sameB p q = (decide (p.e = q.e) && (decide (p.n = q.n) && decide (p.d = q.d)))) := rfl
      generalize sameB p q = sb at SM SB
      generalize decide (p.d = q.d) = db at SE SB
      generalize p.d.length = nd at *
      generalize q.d.length = nq at *
      generalize p.e = pe at *
      generalize q.e = qe at *
      generalize p.n = pn at *
      generalize q.n = qn at *
      generalize (decP xs).e = re at *
      generalize (decP xs).n = rn at *
      go_upto_region 12 with (first | (refine wpList_alloc_z rfl 30 rfl (HY.out wt) ?_; refine wpList_store_row rfl 30 (.tmp 15) (.tmp 74) rfl wt.heap.size E rfl rfl 30 Y GY.out IE.out IYE.out OE.out ?_; rw [RE.out]))
      go_cut [17] (fun s17 wx => s17 = .bool sb ∧ wu = wx)
      case first =>
        have sbe := SB.out
        by_cases h1 : pe = qe
        · have d1 : (pe == qe) = true := beq_iff_eq.2 h1
          rw [decide_eq_true h1, Bool.true_and] at sbe
          by_cases h2 : pn = qn
          · have d2 : (pn == qn) = true := beq_iff_eq.2 h2
            rw [decide_eq_true h2, Bool.true_and] at sbe
            have se := SE.out
            clear SB SE h1 h2
            go_wp2_with fail
            go_meet
            exact ⟨by rw [sbe], rfl⟩
          · have d2 : (pn == qn) = false := beq_eq_false_iff_ne.2 h2
            rw [decide_eq_false h2, Bool.false_and] at sbe
            clear SB SE h1 h2
            go_wp2_with fail
            go_meet
            exact ⟨by rw [sbe], rfl⟩
        · have d1 : (pe == qe) = false := beq_eq_false_iff_ne.2 h1
          rw [decide_eq_false h1, Bool.false_and] at sbe
          clear SB SE h1
          go_wp2_with fail
          go_meet
          exact ⟨by rw [sbe], rfl⟩
      case rest =>
        obtain ⟨rfl, rfl⟩ := hcut
        clear SB SE
        clear ca1 ca2 ca3 cb1 cb2 cb3 cvp cvq
        go_upto_region 13 with (fail)
        refine wp_region_held_drew (S := fun W => Below wu.heap.size wu W ∧ W.heap[w.heap.size]? = some (.cells A 25 (0, 0)) ∧ W.heap[(w.heap.size + 1)]? = some (.cells B 25 (0, 0)) ∧ W.heap[w7.heap.size]? = some (.cells C 25 (0, 0)) ∧ W.heap[wt.heap.size]? = some (.cells E 30 (0, 0))) (by kernel_rfl) (⟨(Below.refl _ _).drew, A11.out, Q11.out, C11.out, E11.out⟩) (fun hS => ?_)
        have hb0 : Below wu.heap.size wu wu.drew := (Below.refl _ _).drew
        clear hb0 
        generalize wu.drew = Was at hS  ⊢
        refine wpAnyH_ready (rs := [0]) (by kernel_rfl) (by simp) ?_
        refine' (AllReadyH.cons ?hoc0a (fun K hK => ?stc0a) AllReadyH.nil)
        case hoc0a => (simp only [List.getElem?_toArray, List.getElem?_cons_zero]; rfl)
        go_simp
        refine (AL.out Was).mono ?_
        rintro e Wax0 ⟨rfl, hb⟩
        go_wp2_with fail
        refine hK.out _ _ (⟨hS.1.trans (hb.mono hS.1.size), (hb.block _ (blk_lt hS.2.1)).trans hS.2.1, (hb.block _ (blk_lt hS.2.2.1)).trans hS.2.2.1, (hb.block _ (blk_lt hS.2.2.2.1)).trans hS.2.2.2.1, (hb.block _ (blk_lt hS.2.2.2.2)).trans hS.2.2.2.2⟩) (fun hHeld => ?_)
        clear hK K
        try simp only [Act.put, List.setIfInBounds_toArray, List.set_cons_succ, List.set_cons_zero]
        clear hS
        have hS := hHeld
        clear hHeld
        clear hb
        refine' wpAnyH_take (i := 1) ?h1x1ax0 ?hsx1ax0 ?hfx1ax0 ?hrx1ax0 ?hQx1ax0 (Or.inl ⟨?hwx1ax0, ?hyx1ax0⟩) hS ?restx1ax0
        case h1x1ax0 => (simp only [List.getElem?_toArray, List.getElem?_cons_succ, List.getElem?_cons_zero]; rfl)
        case hsx1ax0 => kernel_rfl
        case hfx1ax0 => kernel_rfl
        case hrx1ax0 => kernel_rfl
        case hQx1ax0 => exact fun _ _ _ h => h
        case hwx1ax0 => rfl
        case hyx1ax0 =>
          intro W hW
          go_simp
          try with_reducible rfl
        simp only [Act.put, List.setIfInBounds_toArray, List.set_cons_succ, List.set_cons_zero]
        refine' wpAnyH_take (i := 2) ?h1x2ax0 ?hsx2ax0 ?hfx2ax0 ?hrx2ax0 ?hQx2ax0 (Or.inl ⟨?hwx2ax0, ?hyx2ax0⟩) hS ?restx2ax0
        case h1x2ax0 => (simp only [List.getElem?_toArray, List.getElem?_cons_succ, List.getElem?_cons_zero]; rfl)
        case hsx2ax0 => kernel_rfl
        case hfx2ax0 => kernel_rfl
        case hrx2ax0 => kernel_rfl
        case hQx2ax0 => exact fun _ _ _ h => h
        case hwx2ax0 => rfl
        case hyx2ax0 =>
          intro W hW
          go_simp
          try with_reducible rfl
        simp only [Act.put, List.setIfInBounds_toArray, List.set_cons_succ, List.set_cons_zero]
        refine' wpAnyH_take (i := 3) ?h1x3ax0 ?hsx3ax0 ?hfx3ax0 ?hrx3ax0 ?hQx3ax0 (Or.inl ⟨?hwx3ax0, ?hyx3ax0⟩) hS ?restx3ax0
        case h1x3ax0 => (simp only [List.getElem?_toArray, List.getElem?_cons_succ, List.getElem?_cons_zero]; rfl)
        case hsx3ax0 => kernel_rfl
        case hfx3ax0 => kernel_rfl
        case hrx3ax0 => kernel_rfl
        case hQx3ax0 => exact fun _ _ _ h => h
        case hwx3ax0 => rfl
        case hyx3ax0 =>
          intro W hW
          have dd := CX.out W hW.1
          go_simp
          try with_reducible rfl
        simp only [Act.put, List.setIfInBounds_toArray, List.set_cons_succ, List.set_cons_zero]
        refine' wpAnyH_take (i := 4) ?h1x4ax0 ?hsx4ax0 ?hfx4ax0 ?hrx4ax0 ?hQx4ax0 (Or.inl ⟨?hwx4ax0, ?hyx4ax0⟩) hS ?restx4ax0
        case h1x4ax0 => (simp only [List.getElem?_toArray, List.getElem?_cons_succ, List.getElem?_cons_zero]; rfl)
        case hsx4ax0 => kernel_rfl
        case hfx4ax0 => kernel_rfl
        case hrx4ax0 => kernel_rfl
        case hQx4ax0 => exact fun _ _ _ h => h
        case hwx4ax0 => rfl
        case hyx4ax0 =>
          intro W hW
          go_simp
          try with_reducible rfl
        simp only [Act.put, List.setIfInBounds_toArray, List.set_cons_succ, List.set_cons_zero]
        refine' wpAnyH_take (i := 5) ?h1x5ax0 ?hsx5ax0 ?hfx5ax0 ?hrx5ax0 ?hQx5ax0 (Or.inl ⟨?hwx5ax0, ?hyx5ax0⟩) hS ?restx5ax0
        case h1x5ax0 => (simp only [List.getElem?_toArray, List.getElem?_cons_succ, List.getElem?_cons_zero]; rfl)
        case hsx5ax0 => kernel_rfl
        case hfx5ax0 => kernel_rfl
        case hrx5ax0 => kernel_rfl
        case hQx5ax0 => exact fun _ _ _ h => h
        case hwx5ax0 => rfl
        case hyx5ax0 =>
          intro W hW
          have dd := CY.out W hW.1
          go_simp
          try with_reducible rfl
        simp only [Act.put, List.setIfInBounds_toArray, List.set_cons_succ, List.set_cons_zero]
        refine' wpAnyH_take (i := 6) ?h1x6ax0 ?hsx6ax0 ?hfx6ax0 ?hrx6ax0 ?hQx6ax0 (Or.inl ⟨?hwx6ax0, ?hyx6ax0⟩) hS ?restx6ax0
        case h1x6ax0 => (simp only [List.getElem?_toArray, List.getElem?_cons_succ, List.getElem?_cons_zero]; rfl)
        case hsx6ax0 => kernel_rfl
        case hfx6ax0 => kernel_rfl
        case hrx6ax0 => kernel_rfl
        case hQx6ax0 => exact fun _ _ _ h => h
        case hwx6ax0 => rfl
        case hyx6ax0 =>
          intro W hW
          go_simp
          try with_reducible rfl
        simp only [Act.put, List.setIfInBounds_toArray, List.set_cons_succ, List.set_cons_zero]
        refine' wpAnyH_take (i := 7) ?h1x7ax0 ?hsx7ax0 ?hfx7ax0 ?hrx7ax0 ?hQx7ax0 (Or.inl ⟨?hwx7ax0, ?hyx7ax0⟩) hS ?restx7ax0
        case h1x7ax0 => (simp only [List.getElem?_toArray, List.getElem?_cons_succ, List.getElem?_cons_zero]; rfl)
        case hsx7ax0 => kernel_rfl
        case hfx7ax0 => kernel_rfl
        case hrx7ax0 => kernel_rfl
        case hQx7ax0 => exact fun _ _ _ h => h
        case hwx7ax0 => rfl
        case hyx7ax0 =>
          intro W hW
          go_simp
          try with_reducible rfl
        simp only [Act.put, List.setIfInBounds_toArray, List.set_cons_succ, List.set_cons_zero]
        refine' wpAnyH_take (i := 8) ?h1x8ax0 ?hsx8ax0 ?hfx8ax0 ?hrx8ax0 ?hQx8ax0 (Or.inl ⟨?hwx8ax0, ?hyx8ax0⟩) hS ?restx8ax0
        case h1x8ax0 => (simp only [List.getElem?_toArray, List.getElem?_cons_succ, List.getElem?_cons_zero]; rfl)
        case hsx8ax0 => kernel_rfl
        case hfx8ax0 => kernel_rfl
        case hrx8ax0 => kernel_rfl
        case hQx8ax0 => exact fun _ _ _ h => h
        case hwx8ax0 => rfl
        case hyx8ax0 =>
          intro W hW
          go_simp
          try with_reducible rfl
        simp only [Act.put, List.setIfInBounds_toArray, List.set_cons_succ, List.set_cons_zero]
        refine' wpAnyH_take (i := 9) ?h1x9ax0 ?hsx9ax0 ?hfx9ax0 ?hrx9ax0 ?hQx9ax0 (Or.inl ⟨?hwx9ax0, ?hyx9ax0⟩) hS ?restx9ax0
        case h1x9ax0 => (simp only [List.getElem?_toArray, List.getElem?_cons_succ, List.getElem?_cons_zero]; rfl)
        case hsx9ax0 => kernel_rfl
        case hfx9ax0 => kernel_rfl
        case hrx9ax0 => kernel_rfl
        case hQx9ax0 => exact fun _ _ _ h => h
        case hwx9ax0 => rfl
        case hyx9ax0 =>
          intro W hW
          go_simp
          try with_reducible rfl
        simp only [Act.put, List.setIfInBounds_toArray, List.set_cons_succ, List.set_cons_zero]
        refine' wpAnyH_take (i := 10) ?h1x10ax0 ?hsx10ax0 ?hfx10ax0 ?hrx10ax0 ?hQx10ax0 (Or.inl ⟨?hwx10ax0, ?hyx10ax0⟩) hS ?restx10ax0
        case h1x10ax0 => (simp only [List.getElem?_toArray, List.getElem?_cons_succ, List.getElem?_cons_zero]; rfl)
        case hsx10ax0 => kernel_rfl
        case hfx10ax0 => kernel_rfl
        case hrx10ax0 => kernel_rfl
        case hQx10ax0 => exact fun _ _ _ h => h
        case hwx10ax0 => rfl
        case hyx10ax0 =>
          intro W hW
          go_simp
          try with_reducible rfl
        simp only [Act.put, List.setIfInBounds_toArray, List.set_cons_succ, List.set_cons_zero]
        refine' wpAnyH_take (i := 11) ?h1x11ax0 ?hsx11ax0 ?hfx11ax0 ?hrx11ax0 ?hQx11ax0 (Or.inl ⟨?hwx11ax0, ?hyx11ax0⟩) hS ?restx11ax0
        case h1x11ax0 => (simp only [List.getElem?_toArray, List.getElem?_cons_succ, List.getElem?_cons_zero]; rfl)
        case hsx11ax0 => kernel_rfl
        case hfx11ax0 => kernel_rfl
        case hrx11ax0 => kernel_rfl
        case hQx11ax0 => exact fun _ _ _ h => h
        case hwx11ax0 => rfl
        case hyx11ax0 =>
          intro W hW
          go_simp
          try with_reducible rfl
        simp only [Act.put, List.setIfInBounds_toArray, List.set_cons_succ, List.set_cons_zero]
        refine' wpAnyH_take (i := 12) ?h1x12ax0 ?hsx12ax0 ?hfx12ax0 ?hrx12ax0 ?hQx12ax0 (Or.inl ⟨?hwx12ax0, ?hyx12ax0⟩) hS ?restx12ax0
        case h1x12ax0 => (simp only [List.getElem?_toArray, List.getElem?_cons_succ, List.getElem?_cons_zero]; rfl)
        case hsx12ax0 => kernel_rfl
        case hfx12ax0 => kernel_rfl
        case hrx12ax0 => kernel_rfl
        case hQx12ax0 => exact fun _ _ _ h => h
        case hwx12ax0 => rfl
        case hyx12ax0 =>
          intro W hW
          go_simp
          try with_reducible rfl
        simp only [Act.put, List.setIfInBounds_toArray, List.set_cons_succ, List.set_cons_zero]
        refine' wpAnyH_take (i := 13) ?h1x13ax0 ?hsx13ax0 ?hfx13ax0 ?hrx13ax0 ?hQx13ax0 (Or.inl ⟨?hwx13ax0, ?hyx13ax0⟩) hS ?restx13ax0
        case h1x13ax0 => (simp only [List.getElem?_toArray, List.getElem?_cons_succ, List.getElem?_cons_zero]; rfl)
        case hsx13ax0 => kernel_rfl
        case hfx13ax0 => kernel_rfl
        case hrx13ax0 => kernel_rfl
        case hQx13ax0 => exact fun _ _ _ h => h
        case hwx13ax0 => rfl
        case hyx13ax0 =>
          intro W hW
          go_simp
          try with_reducible rfl
        simp only [Act.put, List.setIfInBounds_toArray, List.set_cons_succ, List.set_cons_zero]
        refine' wpAnyH_take (i := 14) ?h1x14ax0 ?hsx14ax0 ?hfx14ax0 ?hrx14ax0 ?hQx14ax0 (Or.inl ⟨?hwx14ax0, ?hyx14ax0⟩) hS ?restx14ax0
        case h1x14ax0 => (simp only [List.getElem?_toArray, List.getElem?_cons_succ, List.getElem?_cons_zero]; rfl)
        case hsx14ax0 => kernel_rfl
        case hfx14ax0 => kernel_rfl
        case hrx14ax0 => kernel_rfl
        case hQx14ax0 => exact fun _ _ _ h => h
        case hwx14ax0 => rfl
        case hyx14ax0 =>
          intro W hW
          go_simp
          try with_reducible rfl
        simp only [Act.put, List.setIfInBounds_toArray, List.set_cons_succ, List.set_cons_zero]
        refine' wpAnyH_take (i := 15) ?h1x15ax0 ?hsx15ax0 ?hfx15ax0 ?hrx15ax0 ?hQx15ax0 (Or.inl ⟨?hwx15ax0, ?hyx15ax0⟩) hS ?restx15ax0
        case h1x15ax0 => (simp only [List.getElem?_toArray, List.getElem?_cons_succ, List.getElem?_cons_zero]; rfl)
        case hsx15ax0 => kernel_rfl
        case hfx15ax0 => kernel_rfl
        case hrx15ax0 => kernel_rfl
        case hQx15ax0 => exact fun _ _ _ h => h
        case hwx15ax0 => rfl
        case hyx15ax0 =>
          intro W hW
          have dd := (CC.out W hW.2.2.2.1).1
          go_simp
          try with_reducible rfl
        simp only [Act.put, List.setIfInBounds_toArray, List.set_cons_succ, List.set_cons_zero]
        refine' wpAnyH_take (i := 16) ?h1x16ax0 ?hsx16ax0 ?hfx16ax0 ?hrx16ax0 ?hQx16ax0 (Or.inl ⟨?hwx16ax0, ?hyx16ax0⟩) hS ?restx16ax0
        case h1x16ax0 => (simp only [List.getElem?_toArray, List.getElem?_cons_succ, List.getElem?_cons_zero]; rfl)
        case hsx16ax0 => kernel_rfl
        case hfx16ax0 => kernel_rfl
        case hrx16ax0 => kernel_rfl
        case hQx16ax0 => exact fun _ _ _ h => h
        case hwx16ax0 => rfl
        case hyx16ax0 =>
          intro W hW
          go_simp
          try with_reducible rfl
        simp only [Act.put, List.setIfInBounds_toArray, List.set_cons_succ, List.set_cons_zero]
        refine' wpAnyH_take (i := 17) ?h1x17ax0 ?hsx17ax0 ?hfx17ax0 ?hrx17ax0 ?hQx17ax0 (Or.inl ⟨?hwx17ax0, ?hyx17ax0⟩) hS ?restx17ax0
        case h1x17ax0 => (simp only [List.getElem?_toArray, List.getElem?_cons_succ, List.getElem?_cons_zero]; rfl)
        case hsx17ax0 => kernel_rfl
        case hfx17ax0 => kernel_rfl
        case hrx17ax0 => kernel_rfl
        case hQx17ax0 => exact fun _ _ _ h => h
        case hwx17ax0 => rfl
        case hyx17ax0 =>
          intro W hW
          have dd := (CE.out W hW.2.2.2.2).1
          go_simp
          try with_reducible rfl
        simp only [Act.put, List.setIfInBounds_toArray, List.set_cons_succ, List.set_cons_zero]
        refine' wpAnyH_take (i := 18) ?h1x18ax0 ?hsx18ax0 ?hfx18ax0 ?hrx18ax0 ?hQx18ax0 (Or.inl ⟨?hwx18ax0, ?hyx18ax0⟩) hS ?restx18ax0
        case h1x18ax0 => (simp only [List.getElem?_toArray, List.getElem?_cons_succ, List.getElem?_cons_zero]; rfl)
        case hsx18ax0 => kernel_rfl
        case hfx18ax0 => kernel_rfl
        case hrx18ax0 => kernel_rfl
        case hQx18ax0 => exact fun _ _ _ h => h
        case hwx18ax0 => rfl
        case hyx18ax0 =>
          intro W hW
          go_simp
          try with_reducible rfl
        simp only [Act.put, List.setIfInBounds_toArray, List.set_cons_succ, List.set_cons_zero]
        refine' wpAnyH_take (i := 19) ?h1x19ax0 ?hsx19ax0 ?hfx19ax0 ?hrx19ax0 ?hQx19ax0 (Or.inl ⟨?hwx19ax0, ?hyx19ax0⟩) hS ?restx19ax0
        case h1x19ax0 => (simp only [List.getElem?_toArray, List.getElem?_cons_succ, List.getElem?_cons_zero]; rfl)
        case hsx19ax0 => kernel_rfl
        case hfx19ax0 => kernel_rfl
        case hrx19ax0 => kernel_rfl
        case hQx19ax0 => exact fun _ _ _ h => h
        case hwx19ax0 => rfl
        case hyx19ax0 =>
          intro W hW
          go_simp
          try with_reducible rfl
        simp only [Act.put, List.setIfInBounds_toArray, List.set_cons_succ, List.set_cons_zero]
        refine' wpAnyH_take (i := 20) ?h1x20ax0 ?hsx20ax0 ?hfx20ax0 ?hrx20ax0 ?hQx20ax0 (Or.inl ⟨?hwx20ax0, ?hyx20ax0⟩) hS ?restx20ax0
        case h1x20ax0 => (simp only [List.getElem?_toArray, List.getElem?_cons_succ, List.getElem?_cons_zero]; rfl)
        case hsx20ax0 => kernel_rfl
        case hfx20ax0 => kernel_rfl
        case hrx20ax0 => kernel_rfl
        case hQx20ax0 => exact fun _ _ _ h => h
        case hwx20ax0 => rfl
        case hyx20ax0 =>
          intro W hW
          go_simp
          try with_reducible rfl
        simp only [Act.put, List.setIfInBounds_toArray, List.set_cons_succ, List.set_cons_zero]
        refine' wpAnyH_take (i := 21) ?h1x21ax0 ?hsx21ax0 ?hfx21ax0 ?hrx21ax0 ?hQx21ax0 (Or.inl ⟨?hwx21ax0, ?hyx21ax0⟩) hS ?restx21ax0
        case h1x21ax0 => (simp only [List.getElem?_toArray, List.getElem?_cons_succ, List.getElem?_cons_zero]; rfl)
        case hsx21ax0 => kernel_rfl
        case hfx21ax0 => kernel_rfl
        case hrx21ax0 => kernel_rfl
        case hQx21ax0 => exact fun _ _ _ h => h
        case hwx21ax0 => rfl
        case hyx21ax0 =>
          intro W hW
          go_simp
          try with_reducible rfl
        simp only [Act.put, List.setIfInBounds_toArray, List.set_cons_succ, List.set_cons_zero]
        refine' wpAnyH_take (i := 22) ?h1x22ax0 ?hsx22ax0 ?hfx22ax0 ?hrx22ax0 ?hQx22ax0 (Or.inl ⟨?hwx22ax0, ?hyx22ax0⟩) hS ?restx22ax0
        case h1x22ax0 => (simp only [List.getElem?_toArray, List.getElem?_cons_succ, List.getElem?_cons_zero]; rfl)
        case hsx22ax0 => kernel_rfl
        case hfx22ax0 => kernel_rfl
        case hrx22ax0 => kernel_rfl
        case hQx22ax0 => exact fun _ _ _ h => h
        case hwx22ax0 => rfl
        case hyx22ax0 =>
          intro W hW
          have dd := (CC.out W hW.2.2.2.1).2.1
          go_simp
          try with_reducible rfl
        simp only [Act.put, List.setIfInBounds_toArray, List.set_cons_succ, List.set_cons_zero]
        refine' wpAnyH_take (i := 23) ?h1x23ax0 ?hsx23ax0 ?hfx23ax0 ?hrx23ax0 ?hQx23ax0 (Or.inl ⟨?hwx23ax0, ?hyx23ax0⟩) hS ?restx23ax0
        case h1x23ax0 => (simp only [List.getElem?_toArray, List.getElem?_cons_succ, List.getElem?_cons_zero]; rfl)
        case hsx23ax0 => kernel_rfl
        case hfx23ax0 => kernel_rfl
        case hrx23ax0 => kernel_rfl
        case hQx23ax0 => exact fun _ _ _ h => h
        case hwx23ax0 => rfl
        case hyx23ax0 =>
          intro W hW
          go_simp
          try with_reducible rfl
        simp only [Act.put, List.setIfInBounds_toArray, List.set_cons_succ, List.set_cons_zero]
        refine' wpAnyH_take (i := 24) ?h1x24ax0 ?hsx24ax0 ?hfx24ax0 ?hrx24ax0 ?hQx24ax0 (Or.inl ⟨?hwx24ax0, ?hyx24ax0⟩) hS ?restx24ax0
        case h1x24ax0 => (simp only [List.getElem?_toArray, List.getElem?_cons_succ, List.getElem?_cons_zero]; rfl)
        case hsx24ax0 => kernel_rfl
        case hfx24ax0 => kernel_rfl
        case hrx24ax0 => kernel_rfl
        case hQx24ax0 => exact fun _ _ _ h => h
        case hwx24ax0 => rfl
        case hyx24ax0 =>
          intro W hW
          have dd := (CE.out W hW.2.2.2.2).2.1
          go_simp
          try with_reducible rfl
        simp only [Act.put, List.setIfInBounds_toArray, List.set_cons_succ, List.set_cons_zero]
        refine' wpAnyH_take (i := 25) ?h1x25ax0 ?hsx25ax0 ?hfx25ax0 ?hrx25ax0 ?hQx25ax0 (Or.inl ⟨?hwx25ax0, ?hyx25ax0⟩) hS ?restx25ax0
        case h1x25ax0 => (simp only [List.getElem?_toArray, List.getElem?_cons_succ, List.getElem?_cons_zero]; rfl)
        case hsx25ax0 => kernel_rfl
        case hfx25ax0 => kernel_rfl
        case hrx25ax0 => kernel_rfl
        case hQx25ax0 => exact fun _ _ _ h => h
        case hwx25ax0 => rfl
        case hyx25ax0 =>
          intro W hW
          go_simp
          try with_reducible rfl
        simp only [Act.put, List.setIfInBounds_toArray, List.set_cons_succ, List.set_cons_zero]
        refine' wpAnyH_take (i := 26) ?h1x26ax0 ?hsx26ax0 ?hfx26ax0 ?hrx26ax0 ?hQx26ax0 (Or.inl ⟨?hwx26ax0, ?hyx26ax0⟩) hS ?restx26ax0
        case h1x26ax0 => (simp only [List.getElem?_toArray, List.getElem?_cons_succ, List.getElem?_cons_zero]; rfl)
        case hsx26ax0 => kernel_rfl
        case hfx26ax0 => kernel_rfl
        case hrx26ax0 => kernel_rfl
        case hQx26ax0 => exact fun _ _ _ h => h
        case hwx26ax0 => rfl
        case hyx26ax0 =>
          intro W hW
          go_simp
          try with_reducible rfl
        simp only [Act.put, List.setIfInBounds_toArray, List.set_cons_succ, List.set_cons_zero]
        refine' wpAnyH_take (i := 27) ?h1x27ax0 ?hsx27ax0 ?hfx27ax0 ?hrx27ax0 ?hQx27ax0 (Or.inl ⟨?hwx27ax0, ?hyx27ax0⟩) hS ?restx27ax0
        case h1x27ax0 => (simp only [List.getElem?_toArray, List.getElem?_cons_succ, List.getElem?_cons_zero]; rfl)
        case hsx27ax0 => kernel_rfl
        case hfx27ax0 => kernel_rfl
        case hrx27ax0 => kernel_rfl
        case hQx27ax0 => exact fun _ _ _ h => h
        case hwx27ax0 => rfl
        case hyx27ax0 =>
          intro W hW
          go_simp
          try with_reducible rfl
        simp only [Act.put, List.setIfInBounds_toArray, List.set_cons_succ, List.set_cons_zero]
        refine' wpAnyH_take (i := 28) ?h1x28ax0 ?hsx28ax0 ?hfx28ax0 ?hrx28ax0 ?hQx28ax0 (Or.inl ⟨?hwx28ax0, ?hyx28ax0⟩) hS ?restx28ax0
        case h1x28ax0 => (simp only [List.getElem?_toArray, List.getElem?_cons_succ, List.getElem?_cons_zero]; rfl)
        case hsx28ax0 => kernel_rfl
        case hfx28ax0 => kernel_rfl
        case hrx28ax0 => kernel_rfl
        case hQx28ax0 => exact fun _ _ _ h => h
        case hwx28ax0 => rfl
        case hyx28ax0 =>
          intro W hW
          go_simp
          try with_reducible rfl
        simp only [Act.put, List.setIfInBounds_toArray, List.set_cons_succ, List.set_cons_zero]
        refine' wpAnyH_take (i := 29) ?h1x29ax0 ?hsx29ax0 ?hfx29ax0 ?hrx29ax0 ?hQx29ax0 (Or.inl ⟨?hwx29ax0, ?hyx29ax0⟩) hS ?restx29ax0
        case h1x29ax0 => (simp only [List.getElem?_toArray, List.getElem?_cons_succ, List.getElem?_cons_zero]; rfl)
        case hsx29ax0 => kernel_rfl
        case hfx29ax0 => kernel_rfl
        case hrx29ax0 => kernel_rfl
        case hQx29ax0 => exact fun _ _ _ h => h
        case hwx29ax0 => rfl
        case hyx29ax0 =>
          intro W hW
          have dd := (CC.out W hW.2.2.2.1).2.2
          go_simp
          try with_reducible rfl
        simp only [Act.put, List.setIfInBounds_toArray, List.set_cons_succ, List.set_cons_zero]
        refine' wpAnyH_take (i := 30) ?h1x30ax0 ?hsx30ax0 ?hfx30ax0 ?hrx30ax0 ?hQx30ax0 (Or.inl ⟨?hwx30ax0, ?hyx30ax0⟩) hS ?restx30ax0
        case h1x30ax0 => (simp only [List.getElem?_toArray, List.getElem?_cons_succ, List.getElem?_cons_zero]; rfl)
        case hsx30ax0 => kernel_rfl
        case hfx30ax0 => kernel_rfl
        case hrx30ax0 => kernel_rfl
        case hQx30ax0 => exact fun _ _ _ h => h
        case hwx30ax0 => rfl
        case hyx30ax0 =>
          intro W hW
          have dd := CU.out W hW.1
          go_simp
          try with_reducible rfl
        simp only [Act.put, List.setIfInBounds_toArray, List.set_cons_succ, List.set_cons_zero]
        refine' wpAnyH_take (i := 31) ?h1x31ax0 ?hsx31ax0 ?hfx31ax0 ?hrx31ax0 ?hQx31ax0 (Or.inl ⟨?hwx31ax0, ?hyx31ax0⟩) hS ?restx31ax0
        case h1x31ax0 => (simp only [List.getElem?_toArray, List.getElem?_cons_succ, List.getElem?_cons_zero]; rfl)
        case hsx31ax0 => kernel_rfl
        case hfx31ax0 => kernel_rfl
        case hrx31ax0 => kernel_rfl
        case hQx31ax0 => exact fun _ _ _ h => h
        case hwx31ax0 => rfl
        case hyx31ax0 =>
          intro W hW
          go_simp
          try with_reducible rfl
        simp only [Act.put, List.setIfInBounds_toArray, List.set_cons_succ, List.set_cons_zero]
        refine' wpAnyH_take (i := 32) ?h1x32ax0 ?hsx32ax0 ?hfx32ax0 ?hrx32ax0 ?hQx32ax0 (Or.inl ⟨?hwx32ax0, ?hyx32ax0⟩) hS ?restx32ax0
        case h1x32ax0 => (simp only [List.getElem?_toArray, List.getElem?_cons_succ, List.getElem?_cons_zero]; rfl)
        case hsx32ax0 => kernel_rfl
        case hfx32ax0 => kernel_rfl
        case hrx32ax0 => kernel_rfl
        case hQx32ax0 => exact fun _ _ _ h => h
        case hwx32ax0 => rfl
        case hyx32ax0 =>
          intro W hW
          have dd := (CE.out W hW.2.2.2.2).2.2
          go_simp
          try with_reducible rfl
        simp only [Act.put, List.setIfInBounds_toArray, List.set_cons_succ, List.set_cons_zero]
        refine' wpAnyH_take (i := 33) ?h1x33ax0 ?hsx33ax0 ?hfx33ax0 ?hrx33ax0 ?hQx33ax0 (Or.inl ⟨?hwx33ax0, ?hyx33ax0⟩) hS ?restx33ax0
        case h1x33ax0 => (simp only [List.getElem?_toArray, List.getElem?_cons_succ, List.getElem?_cons_zero]; rfl)
        case hsx33ax0 => kernel_rfl
        case hfx33ax0 => kernel_rfl
        case hrx33ax0 => kernel_rfl
        case hQx33ax0 => exact fun _ _ _ h => h
        case hwx33ax0 => rfl
        case hyx33ax0 =>
          intro W hW
          have dd := CV.out W hW.1
          go_simp
          try with_reducible rfl
        simp only [Act.put, List.setIfInBounds_toArray, List.set_cons_succ, List.set_cons_zero]
        refine' wpAnyH_take (i := 34) ?h1x34ax0 ?hsx34ax0 ?hfx34ax0 ?hrx34ax0 ?hQx34ax0 (Or.inl ⟨?hwx34ax0, ?hyx34ax0⟩) hS ?restx34ax0
        case h1x34ax0 => (simp only [List.getElem?_toArray, List.getElem?_cons_succ, List.getElem?_cons_zero]; rfl)
        case hsx34ax0 => kernel_rfl
        case hfx34ax0 => kernel_rfl
        case hrx34ax0 => kernel_rfl
        case hQx34ax0 => exact fun _ _ _ h => h
        case hwx34ax0 => rfl
        case hyx34ax0 =>
          intro W hW
          go_simp
          try with_reducible rfl
        simp only [Act.put, List.setIfInBounds_toArray, List.set_cons_succ, List.set_cons_zero]
        refine' wpAnyH_take (i := 35) ?h1x35ax0 ?hsx35ax0 ?hfx35ax0 ?hrx35ax0 ?hQx35ax0 (Or.inl ⟨?hwx35ax0, ?hyx35ax0⟩) hS ?restx35ax0
        case h1x35ax0 => (simp only [List.getElem?_toArray, List.getElem?_cons_succ, List.getElem?_cons_zero]; rfl)
        case hsx35ax0 => kernel_rfl
        case hfx35ax0 => kernel_rfl
        case hrx35ax0 => kernel_rfl
        case hQx35ax0 => exact fun _ _ _ h => h
        case hwx35ax0 => rfl
        case hyx35ax0 =>
          intro W hW
          go_simp
          try with_reducible rfl
        simp only [Act.put, List.setIfInBounds_toArray, List.set_cons_succ, List.set_cons_zero]
        refine' wpAnyH_take (i := 36) ?h1x36ax0 ?hsx36ax0 ?hfx36ax0 ?hrx36ax0 ?hQx36ax0 (Or.inl ⟨?hwx36ax0, ?hyx36ax0⟩) hS ?restx36ax0
        case h1x36ax0 => (simp only [List.getElem?_toArray, List.getElem?_cons_succ, List.getElem?_cons_zero]; rfl)
        case hsx36ax0 => kernel_rfl
        case hfx36ax0 => kernel_rfl
        case hrx36ax0 => kernel_rfl
        case hQx36ax0 => exact fun _ _ _ h => h
        case hwx36ax0 => rfl
        case hyx36ax0 =>
          intro W hW
          go_simp
          try with_reducible rfl
        simp only [Act.put, List.setIfInBounds_toArray, List.set_cons_succ, List.set_cons_zero]
        refine' wpAnyH_take (i := 37) ?h1x37ax0 ?hsx37ax0 ?hfx37ax0 ?hrx37ax0 ?hQx37ax0 (Or.inl ⟨?hwx37ax0, ?hyx37ax0⟩) hS ?restx37ax0
        case h1x37ax0 => (simp only [List.getElem?_toArray, List.getElem?_cons_succ, List.getElem?_cons_zero]; rfl)
        case hsx37ax0 => kernel_rfl
        case hfx37ax0 => kernel_rfl
        case hrx37ax0 => kernel_rfl
        case hQx37ax0 => exact fun _ _ _ h => h
        case hwx37ax0 => rfl
        case hyx37ax0 =>
          intro W hW
          go_simp
          try with_reducible rfl
        simp only [Act.put, List.setIfInBounds_toArray, List.set_cons_succ, List.set_cons_zero]
        refine' wpAnyH_take (i := 38) ?h1x38ax0 ?hsx38ax0 ?hfx38ax0 ?hrx38ax0 ?hQx38ax0 (Or.inl ⟨?hwx38ax0, ?hyx38ax0⟩) hS ?restx38ax0
        case h1x38ax0 => (simp only [List.getElem?_toArray, List.getElem?_cons_succ, List.getElem?_cons_zero]; rfl)
        case hsx38ax0 => kernel_rfl
        case hfx38ax0 => kernel_rfl
        case hrx38ax0 => kernel_rfl
        case hQx38ax0 => exact fun _ _ _ h => h
        case hwx38ax0 => rfl
        case hyx38ax0 =>
          intro W hW
          go_simp
          try with_reducible rfl
        simp only [Act.put, List.setIfInBounds_toArray, List.set_cons_succ, List.set_cons_zero]
        refine' wpAnyH_take (i := 39) ?h1x39ax0 ?hsx39ax0 ?hfx39ax0 ?hrx39ax0 ?hQx39ax0 (Or.inl ⟨?hwx39ax0, ?hyx39ax0⟩) hS ?restx39ax0
        case h1x39ax0 => (simp only [List.getElem?_toArray, List.getElem?_cons_succ, List.getElem?_cons_zero]; rfl)
        case hsx39ax0 => kernel_rfl
        case hfx39ax0 => kernel_rfl
        case hrx39ax0 => kernel_rfl
        case hQx39ax0 => exact fun _ _ _ h => h
        case hwx39ax0 => rfl
        case hyx39ax0 =>
          intro W hW
          go_simp
          try with_reducible rfl
        simp only [Act.put, List.setIfInBounds_toArray, List.set_cons_succ, List.set_cons_zero]
        refine' wpAnyH_take (i := 40) ?h1x40ax0 ?hsx40ax0 ?hfx40ax0 ?hrx40ax0 ?hQx40ax0 (Or.inl ⟨?hwx40ax0, ?hyx40ax0⟩) hS ?restx40ax0
        case h1x40ax0 => (simp only [List.getElem?_toArray, List.getElem?_cons_succ, List.getElem?_cons_zero]; rfl)
        case hsx40ax0 => kernel_rfl
        case hfx40ax0 => kernel_rfl
        case hrx40ax0 => kernel_rfl
        case hQx40ax0 => exact fun _ _ _ h => h
        case hwx40ax0 => rfl
        case hyx40ax0 =>
          intro W hW
          go_simp
          try with_reducible rfl
        simp only [Act.put, List.setIfInBounds_toArray, List.set_cons_succ, List.set_cons_zero]
        refine' wpAnyH_take (i := 41) ?h1x41ax0 ?hsx41ax0 ?hfx41ax0 ?hrx41ax0 ?hQx41ax0 (Or.inl ⟨?hwx41ax0, ?hyx41ax0⟩) hS ?restx41ax0
        case h1x41ax0 => (simp only [List.getElem?_toArray, List.getElem?_cons_succ, List.getElem?_cons_zero]; rfl)
        case hsx41ax0 => kernel_rfl
        case hfx41ax0 => kernel_rfl
        case hrx41ax0 => kernel_rfl
        case hQx41ax0 => exact fun _ _ _ h => h
        case hwx41ax0 => rfl
        case hyx41ax0 =>
          intro W hW
          go_simp
          try with_reducible rfl
        simp only [Act.put, List.setIfInBounds_toArray, List.set_cons_succ, List.set_cons_zero]
        refine' wpAnyH_take (i := 42) ?h1x42ax0 ?hsx42ax0 ?hfx42ax0 ?hrx42ax0 ?hQx42ax0 (yieldsIf_load_at ?hwx42ax0 25 (.tmp 3) ?hopx42ax0 w.heap.size 0 rfl A _ (fun W hW => range_row hW.2.1) Try.underlying25 rfl ?hix42ax0) hS ?restx42ax0
        case h1x42ax0 => (simp only [List.getElem?_toArray, List.getElem?_cons_succ, List.getElem?_cons_zero]; rfl)
        case hopx42ax0 => rfl
        case hsx42ax0 => kernel_rfl
        case hfx42ax0 => kernel_rfl
        case hrx42ax0 => kernel_rfl
        case hQx42ax0 => exact fun _ _ _ h => h
        case hwx42ax0 => rfl
        case hix42ax0 => exact ia.out
        simp only [Act.put, List.setIfInBounds_toArray, List.set_cons_succ, List.set_cons_zero]
        refine' wpAnyH_take (i := 43) ?h1x43ax0 ?hsx43ax0 ?hfx43ax0 ?hrx43ax0 ?hQx43ax0 (yieldsIf_load_at ?hwx43ax0 25 (.tmp 4) ?hopx43ax0 (w.heap.size + 1) 0 rfl B _ (fun W hW => range_row hW.2.2.1) Try.underlying25 rfl ?hix43ax0) hS ?restx43ax0
        case h1x43ax0 => (simp only [List.getElem?_toArray, List.getElem?_cons_succ, List.getElem?_cons_zero]; rfl)
        case hopx43ax0 => rfl
        case hsx43ax0 => kernel_rfl
        case hfx43ax0 => kernel_rfl
        case hrx43ax0 => kernel_rfl
        case hQx43ax0 => exact fun _ _ _ h => h
        case hwx43ax0 => rfl
        case hix43ax0 => exact ib.out
        simp only [Act.put, List.setIfInBounds_toArray, List.set_cons_succ, List.set_cons_zero]
        refine' wpAnyH_take (i := 45) ?h1x45ax0 ?hsx45ax0 ?hfx45ax0 ?hrx45ax0 ?hQx45ax0 (Or.inl ⟨?hwx45ax0, ?hyx45ax0⟩) hS ?restx45ax0
        case h1x45ax0 => (simp only [List.getElem?_toArray, List.getElem?_cons_succ, List.getElem?_cons_zero]; rfl)
        case hsx45ax0 => kernel_rfl
        case hfx45ax0 => kernel_rfl
        case hrx45ax0 => kernel_rfl
        case hQx45ax0 => exact fun _ _ _ h => h
        case hwx45ax0 => rfl
        case hyx45ax0 =>
          intro W hW
          go_simp
          try with_reducible rfl
        simp only [Act.put, List.setIfInBounds_toArray, List.set_cons_succ, List.set_cons_zero]
        refine wpAnyH_ready (rs := [44]) (by kernel_rfl) (by simp) ?_
        refine' (AllReadyH.cons ?hoc44ax0 (fun K hK => ?stc44ax0) AllReadyH.nil)
        case hoc44ax0 => (simp only [List.getElem?_toArray, List.getElem?_cons_succ, List.getElem?_cons_zero]; rfl)
        go_simp
        refine (SM.out Wax0 hS.1).mono ?_
        rintro e Wax0x44 ⟨rfl, hb⟩
        go_wp2_with fail
        refine hK.out _ _ (⟨hS.1.trans (hb.mono hS.1.size), (hb.block _ (blk_lt hS.2.1)).trans hS.2.1, (hb.block _ (blk_lt hS.2.2.1)).trans hS.2.2.1, (hb.block _ (blk_lt hS.2.2.2.1)).trans hS.2.2.2.1, (hb.block _ (blk_lt hS.2.2.2.2)).trans hS.2.2.2.2⟩) (fun hHeld => ?_)
        clear hK K
        try simp only [Act.put, List.setIfInBounds_toArray, List.set_cons_succ, List.set_cons_zero]
        clear hS
        have hS := hHeld
        clear hHeld
        clear hb
        refine' wpAnyH_take (i := 46) ?h1x46ax0x44 ?hsx46ax0x44 ?hfx46ax0x44 ?hrx46ax0x44 ?hQx46ax0x44 (Or.inl ⟨?hwx46ax0x44, ?hyx46ax0x44⟩) hS ?restx46ax0x44
        case h1x46ax0x44 => (simp only [List.getElem?_toArray, List.getElem?_cons_succ, List.getElem?_cons_zero]; rfl)
        case hsx46ax0x44 => kernel_rfl
        case hfx46ax0x44 => kernel_rfl
        case hrx46ax0x44 => kernel_rfl
        case hQx46ax0x44 => exact fun _ _ _ h => h
        case hwx46ax0x44 => rfl
        case hyx46ax0x44 =>
          intro W hW
          go_simp
          try with_reducible rfl
        simp only [Act.put, List.setIfInBounds_toArray, List.set_cons_succ, List.set_cons_zero]
        refine' wpAnyH_take (i := 47) ?h1x47ax0x44 ?hsx47ax0x44 ?hfx47ax0x44 ?hrx47ax0x44 ?hQx47ax0x44 (Or.inl ⟨?hwx47ax0x44, ?hyx47ax0x44⟩) hS ?restx47ax0x44
        case h1x47ax0x44 => (simp only [List.getElem?_toArray, List.getElem?_cons_succ, List.getElem?_cons_zero]; rfl)
        case hsx47ax0x44 => kernel_rfl
        case hfx47ax0x44 => kernel_rfl
        case hrx47ax0x44 => kernel_rfl
        case hQx47ax0x44 => exact fun _ _ _ h => h
        case hwx47ax0x44 => rfl
        case hyx47ax0x44 =>
          intro W hW
          go_simp
          try with_reducible rfl
        simp only [Act.put, List.setIfInBounds_toArray, List.set_cons_succ, List.set_cons_zero]
        refine' wpAnyH_take (i := 48) ?h1x48ax0x44 ?hsx48ax0x44 ?hfx48ax0x44 ?hrx48ax0x44 ?hQx48ax0x44 (Or.inl ⟨?hwx48ax0x44, ?hyx48ax0x44⟩) hS ?restx48ax0x44
        case h1x48ax0x44 => (simp only [List.getElem?_toArray, List.getElem?_cons_succ, List.getElem?_cons_zero]; rfl)
        case hsx48ax0x44 => kernel_rfl
        case hfx48ax0x44 => kernel_rfl
        case hrx48ax0x44 => kernel_rfl
        case hQx48ax0x44 => exact fun _ _ _ h => h
        case hwx48ax0x44 => rfl
        case hyx48ax0x44 =>
          intro W hW
          go_simp
          try with_reducible rfl
        simp only [Act.put, List.setIfInBounds_toArray, List.set_cons_succ, List.set_cons_zero]
        refine' wpAnyH_take (i := 49) ?h1x49ax0x44 ?hsx49ax0x44 ?hfx49ax0x44 ?hrx49ax0x44 ?hQx49ax0x44 (Or.inl ⟨?hwx49ax0x44, ?hyx49ax0x44⟩) hS ?restx49ax0x44
        case h1x49ax0x44 => (simp only [List.getElem?_toArray, List.getElem?_cons_succ, List.getElem?_cons_zero]; rfl)
        case hsx49ax0x44 => kernel_rfl
        case hfx49ax0x44 => kernel_rfl
        case hrx49ax0x44 => kernel_rfl
        case hQx49ax0x44 => exact fun _ _ _ h => h
        case hwx49ax0x44 => rfl
        case hyx49ax0x44 =>
          intro W hW
          go_simp
          try with_reducible rfl
        simp only [Act.put, List.setIfInBounds_toArray, List.set_cons_succ, List.set_cons_zero]
        refine' wpAnyH_take (i := 52) ?h1x52ax0x44 ?hsx52ax0x44 ?hfx52ax0x44 ?hrx52ax0x44 ?hQx52ax0x44 (Or.inl ⟨?hwx52ax0x44, ?hyx52ax0x44⟩) hS ?restx52ax0x44
        case h1x52ax0x44 => (simp only [List.getElem?_toArray, List.getElem?_cons_succ, List.getElem?_cons_zero]; rfl)
        case hsx52ax0x44 => kernel_rfl
        case hfx52ax0x44 => kernel_rfl
        case hrx52ax0x44 => kernel_rfl
        case hQx52ax0x44 => exact fun _ _ _ h => h
        case hwx52ax0x44 => rfl
        case hyx52ax0x44 =>
          intro W hW
          go_simp
          try with_reducible rfl
        simp only [Act.put, List.setIfInBounds_toArray, List.set_cons_succ, List.set_cons_zero]
        refine' wpAnyH_take (i := 50) ?h1x50ax0x44 ?hsx50ax0x44 ?hfx50ax0x44 ?hrx50ax0x44 ?hQx50ax0x44 (Or.inl ⟨?hwx50ax0x44, ?hyx50ax0x44⟩) hS ?restx50ax0x44
        case h1x50ax0x44 => (simp only [List.getElem?_toArray, List.getElem?_cons_succ, List.getElem?_cons_zero]; rfl)
        case hsx50ax0x44 => kernel_rfl
        case hfx50ax0x44 => kernel_rfl
        case hrx50ax0x44 => kernel_rfl
        case hQx50ax0x44 => exact fun _ _ _ h => h
        case hwx50ax0x44 => rfl
        case hyx50ax0x44 =>
          intro W hW
          have dd := CA0.out W hW.2.1
          go_simp
          try with_reducible rfl
        simp only [Act.put, List.setIfInBounds_toArray, List.set_cons_succ, List.set_cons_zero]
        refine' wpAnyH_take (i := 53) ?h1x53ax0x44 ?hsx53ax0x44 ?hfx53ax0x44 ?hrx53ax0x44 ?hQx53ax0x44 (Or.inl ⟨?hwx53ax0x44, ?hyx53ax0x44⟩) hS ?restx53ax0x44
        case h1x53ax0x44 => (simp only [List.getElem?_toArray, List.getElem?_cons_succ, List.getElem?_cons_zero]; rfl)
        case hsx53ax0x44 => kernel_rfl
        case hfx53ax0x44 => kernel_rfl
        case hrx53ax0x44 => kernel_rfl
        case hQx53ax0x44 => exact fun _ _ _ h => h
        case hwx53ax0x44 => rfl
        case hyx53ax0x44 =>
          intro W hW
          have dd := CA0.out W hW.2.1
          go_simp
          try with_reducible rfl
        simp only [Act.put, List.setIfInBounds_toArray, List.set_cons_succ, List.set_cons_zero]
        refine' wpAnyH_take (i := 54) ?h1x54ax0x44 ?hsx54ax0x44 ?hfx54ax0x44 ?hrx54ax0x44 ?hQx54ax0x44 (Or.inl ⟨?hwx54ax0x44, ?hyx54ax0x44⟩) hS ?restx54ax0x44
        case h1x54ax0x44 => (simp only [List.getElem?_toArray, List.getElem?_cons_succ, List.getElem?_cons_zero]; rfl)
        case hsx54ax0x44 => kernel_rfl
        case hfx54ax0x44 => kernel_rfl
        case hrx54ax0x44 => kernel_rfl
        case hQx54ax0x44 => exact fun _ _ _ h => h
        case hwx54ax0x44 => rfl
        case hyx54ax0x44 =>
          intro W hW
          go_simp
          try with_reducible rfl
        simp only [Act.put, List.setIfInBounds_toArray, List.set_cons_succ, List.set_cons_zero]
        refine wpAnyH_ready (rs := [51]) (by kernel_rfl) (by simp) ?_
        refine' (AllReadyH.cons ?hoc51ax0x44 (fun K hK => ?stc51ax0x44) AllReadyH.nil)
        case hoc51ax0x44 => (simp only [List.getElem?_toArray, List.getElem?_cons_succ, List.getElem?_cons_zero]; rfl)
        go_simp
        refine (FA.out Wax0x44).mono ?_
        rintro e Wax0x44x51 ⟨rfl, hb⟩
        go_wp2_with fail
        refine hK.out _ _ (⟨hS.1.trans (hb.mono hS.1.size), (hb.block _ (blk_lt hS.2.1)).trans hS.2.1, (hb.block _ (blk_lt hS.2.2.1)).trans hS.2.2.1, (hb.block _ (blk_lt hS.2.2.2.1)).trans hS.2.2.2.1, (hb.block _ (blk_lt hS.2.2.2.2)).trans hS.2.2.2.2⟩) (fun hHeld => ?_)
        clear hK K
        try simp only [Act.put, List.setIfInBounds_toArray, List.set_cons_succ, List.set_cons_zero]
        clear hS
        have hS := hHeld
        clear hHeld
        clear hb
        refine wpAnyH_ready (rs := [55]) (by kernel_rfl) (by simp) ?_
        refine' (AllReadyH.cons ?hoc55ax0x44x51 (fun K hK => ?stc55ax0x44x51) AllReadyH.nil)
        case hoc55ax0x44x51 => (simp only [List.getElem?_toArray, List.getElem?_cons_succ, List.getElem?_cons_zero]; rfl)
        go_simp
        refine (SF.out Wax0x44x51).mono ?_
        rintro e Wax0x44x51x55 ⟨rfl, hb⟩
        go_wp2_with fail
        refine hK.out _ _ (⟨hS.1.trans (hb.mono hS.1.size), (hb.block _ (blk_lt hS.2.1)).trans hS.2.1, (hb.block _ (blk_lt hS.2.2.1)).trans hS.2.2.1, (hb.block _ (blk_lt hS.2.2.2.1)).trans hS.2.2.2.1, (hb.block _ (blk_lt hS.2.2.2.2)).trans hS.2.2.2.2⟩) (fun hHeld => ?_)
        clear hK K
        try simp only [Act.put, List.setIfInBounds_toArray, List.set_cons_succ, List.set_cons_zero]
        clear hS
        have hS := hHeld
        clear hHeld
        clear hb
        refine' wpAnyH_take (i := 56) ?h1x56ax0x44x51x55 ?hsx56ax0x44x51x55 ?hfx56ax0x44x51x55 ?hrx56ax0x44x51x55 ?hQx56ax0x44x51x55 (Or.inl ⟨?hwx56ax0x44x51x55, ?hyx56ax0x44x51x55⟩) hS ?restx56ax0x44x51x55
        case h1x56ax0x44x51x55 => (simp only [List.getElem?_toArray, List.getElem?_cons_succ, List.getElem?_cons_zero]; rfl)
        case hsx56ax0x44x51x55 => kernel_rfl
        case hfx56ax0x44x51x55 => kernel_rfl
        case hrx56ax0x44x51x55 => kernel_rfl
        case hQx56ax0x44x51x55 => exact fun _ _ _ h => h
        case hwx56ax0x44x51x55 => rfl
        case hyx56ax0x44x51x55 =>
          intro W hW
          go_simp
          try with_reducible rfl
        simp only [Act.put, List.setIfInBounds_toArray, List.set_cons_succ, List.set_cons_zero]
        refine' wpAnyH_take (i := 57) ?h1x57ax0x44x51x55 ?hsx57ax0x44x51x55 ?hfx57ax0x44x51x55 ?hrx57ax0x44x51x55 ?hQx57ax0x44x51x55 (Or.inl ⟨?hwx57ax0x44x51x55, ?hyx57ax0x44x51x55⟩) hS ?restx57ax0x44x51x55
        case h1x57ax0x44x51x55 => (simp only [List.getElem?_toArray, List.getElem?_cons_succ, List.getElem?_cons_zero]; rfl)
        case hsx57ax0x44x51x55 => kernel_rfl
        case hfx57ax0x44x51x55 => kernel_rfl
        case hrx57ax0x44x51x55 => kernel_rfl
        case hQx57ax0x44x51x55 => exact fun _ _ _ h => h
        case hwx57ax0x44x51x55 => rfl
        case hyx57ax0x44x51x55 =>
          intro W hW
          go_simp
          try with_reducible rfl
        simp only [Act.put, List.setIfInBounds_toArray, List.set_cons_succ, List.set_cons_zero]
        refine wpAnyH_done (by kernel_rfl) ?_ _
        go_wp2_with fail
        go_ret
        exact ⟨rfl, B11.out.trans (hS.1.mono B11.out.size)⟩
end Go.Proofs.Ytabopcfhonkecaa
